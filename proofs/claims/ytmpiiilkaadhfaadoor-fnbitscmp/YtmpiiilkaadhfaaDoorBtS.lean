/- What marks say, nets reckoned, and functions of the laws of numbers in nets. -/
import Derived.Test.YtmpiiilkaadhfaaDoorAbsA
import Derived.Test.YtmpiiilkaadhfaaDoorRd
import Derived.Laws.BitsAllLaws
import Derived.Laws.ShiftsVarLaws
import Derived.Test.YtmpiiilkaadhfaaDoorClaA
import Derived.Test.YtmpiiilkaadhfaaDoorGrwA
import Derived.Test.YtmpiiilkaadhfaaDoorBolA
import Derived.Test.YtmpiiilkaadhfaaDoorNokA
import Derived.Test.YtmpiiilkaadhfaaDoorNokC
import Derived.Test.YtmpiiilkaadhfaaDoorRngA
import Derived.Test.YtmpiiilkaadhfaaDoorNvM
import Derived.Test.YtmpiiilkaadhfaaDoorGtB
import Derived.Test.YtmpiiilkaadhfaaDoorBkM
import Derived.Test.YtmpiiilkaadhfaaDoorBkU
import Derived.Test.YtmpiiilkaadhfaaDoorBkV
namespace Go.Proofs.YtmpiiilkaadhfaaDoor
open Go.ChangeShapes Go.WideShapes Go.ChangeAt Go.RowKit Go.Joins
set_option linter.unusedVariables false
set_option maxRecDepth 100000
set_option linter.unusedSimpArgs false
/-- Words in a row, each of 64 bits. -/
def Wds (w : World) (b off n : Nat) (X : Nat → Nat) : Prop := ∀ i, i < n → X i < 18446744073709551616 ∧ w.cell? ⟨b, off + i, none⟩ = some (.int .u64 (X i))
theorem Wds.later {w w' : World} {b off n : Nat} {X : Nat → Nat} (h : Wds w b off n X) (hb : Below w.heap.size w w') : Wds w' b off n X := fun i hi => ⟨(h i hi).1, cell_later hb (h i hi).2⟩
/-- A place is in a set. -/
def inW (X : Nat → Nat) (m : Nat) : Bool := (X (m / 64)).testBit (m % 64)
/-- A set with a place more. -/
def addW (X : Nat → Nat) (m : Nat) : Nat → Nat := fun i => if i = m / 64 then X i ||| 2 ^ (m % 64) else X i
theorem inW_addW (X : Nat → Nat) (m k : Nat) : inW (addW X m) k = (inW X k || decide (k = m)) := by
  unfold inW addW
  by_cases h : k / 64 = m / 64
  · rw [if_pos h, Nat.testBit_or, Nat.testBit_two_pow]
    have : (decide (m % 64 = k % 64)) = decide (k = m) := by
      rw [Bool.eq_iff_iff]; simp; omega
    rw [this, h]
  · rw [if_neg h]
    have : decide (k = m) = false := by simp; intro e; exact h (by rw [e])
    rw [this]; simp
theorem inW_zero (k : Nat) : inW (fun _ => 0) k = false := by simp [inW]
theorem or_lt64 {a b : Nat} (ha : a < 18446744073709551616) (hb : b < 18446744073709551616) : a ||| b < 18446744073709551616 := Nat.or_lt_two_pow (n := 64) ha hb
theorem pow_lt64 {j : Nat} (h : j < 64) : 2 ^ j < 18446744073709551616 := by
  have : 2 ^ j < 2 ^ 64 := Nat.pow_lt_pow_right (by omega) h
  simpa using this
theorem bit1 (x j : Nat) (hx : x < 18446744073709551616) : (bits .and .u64 ((x : Int) / 2 ^ j) 1 == 1) = x.testBit j := by
  have e : ((x : Int) / 2 ^ j) = ((x / 2 ^ j : Nat) : Int) := by simp
  have h := u64_and_nat (x / 2 ^ j) 1 (Nat.lt_of_le_of_lt (Nat.div_le_self _ _) hx) (by decide)
  rw [e, show (1 : Int) = ((1 : Nat) : Int) from rfl, h, Nat.and_one_is_mod, Nat.testBit_eq_decide_div_mod_eq, Bool.eq_iff_iff]
  simp
  omega
/-- A set in memory of one's own. -/
def WSet (w : World) (b off n : Nat) (X : Nat → Nat) : Prop := Wds w b off n X ∧ ∀ i, i < n → w.frozen? ⟨b, off + i, none⟩ = false
theorem WSet.later {w w' : World} {b off n : Nat} {X : Nat → Nat} (h : WSet w b off n X) (hb : Below w.heap.size w w') : WSet w' b off n X :=
  ⟨h.1.later hb, fun i hi => by rw [hb.frozen (World.block_lt_of_cell? _ _ (h.1 i hi).2)]; exact h.2 i hi⟩
theorem WSet.mov {w w' : World} {b off n R : Nat} {X : Nat → Nat} (h : WSet w b off n X) (hm : Mov R w w') (hR : b ≠ R) : WSet w' b off n X :=
  ⟨fun i hi => ⟨(h.1 i hi).1, hm.cell (h.1 i hi).2 hR⟩, fun i hi => hm.frozen (h.1 i hi).2 hR (h.2 i hi)⟩
theorem WSet.drewN {w : World} {b off n : Nat} {X : Nat → Nat} (h : WSet w b off n X) (k : Nat) : WSet (w.drewN k) b off n X := h
theorem WSet.put {w : World} {b off n : Nat} {X : Nat → Nat} (h : WSet w b off n X) (i : Nat) (v : Nat) (hi : i < n) (hv : v < 18446744073709551616) (a c : Nat) :
    WSet (((w.drewN a).setCell ⟨b, off + i, none⟩ (.int .u64 (v : Int))).drewN c) b off n (fun j => if j = i then v else X j) := by
  refine ⟨fun j hj => ?_, fun j hj => ?_⟩
  · show _ ∧ ((w.drewN a).setCell ⟨b, off + i, none⟩ (.int .u64 (v : Int))).cell? _ = _
    by_cases e : j = i
    · subst e
      simp only [if_true]
      exact ⟨hv, World.cell?_setCell_same _ _ _ (h.1 j hj).2⟩
    · simp only [if_neg e]
      exact ⟨(h.1 j hj).1, by rw [World.cell?_setCell_other _ _ _ _ (by simp <;> omega)]; exact (h.1 j hj).2⟩
  · have := h.2 j hj
    show ((w.drewN a).setCell ⟨b, off + i, none⟩ (.int .u64 (v : Int))).frozen? _ = _
    simp [go_sem]
    exact this
theorem WSet.new (w : World) (e : TypeId) : WSet (w.alloc (.cells #[.int .u64 0, .int .u64 0, .int .u64 0, .int .u64 0, .int .u64 0, .int .u64 0, .int .u64 0, .int .u64 0, .int .u64 0, .int .u64 0, .int .u64 0] e)) w.heap.size 0 11 (fun _ => 0) := by
  refine ⟨fun i hi => ⟨by show 0 < _; omega, ?_⟩, fun i hi => by simp [go_sem]⟩
  rw [World.cell?_alloc_new]
  have : i = 0 ∨ i = 1 ∨ i = 2 ∨ i = 3 ∨ i = 4 ∨ i = 5 ∨ i = 6 ∨ i = 7 ∨ i = 8 ∨ i = 9 ∨ i = 10 := by omega
  rcases this with rfl | rfl | rfl | rfl | rfl | rfl | rfl | rfl | rfl | rfl | rfl <;> rfl
set_option maxRecDepth 100000 in
set_option maxHeartbeats 1000000 in
theorem has_any (b off : Nat) (X : Nat → Nat) (m : Int) (w : World) (hX : Wds w b off 11 X) (hm : W64 m) (h0 : 0 ≤ bareI m) (h1 : bareI m ≤ 700) :
    Calls Tryd.prog 46 #[.pointer (some ⟨b, off, none⟩), .int .i64 m] w fun e w' => e = .returned (.bool (inW X (bareI m).toNat)) ∧ ∃ n, w' = w.drewN n := by
  obtain ⟨k, hk⟩ := Int.eq_ofNat_of_zero_le h0
  have hk' : k ≤ 700 := by omega
  obtain ⟨x1, x2⟩ := hX (k / 64) (by omega)
  rw [hk, Int.toNat_natCast]
  go_enter Tryd.func46, Tryd.ntmps46
  go_wp2
  go_quiet ((go_at_call 75; exact Calls.quiet_of_same (bare_any _ _ hm)))
  go_wp2
  go_ret
  exact ⟨ret_bool (bit1 _ _ x1), _, rfl⟩
set_option maxRecDepth 100000 in
set_option maxHeartbeats 1000000 in
theorem add_any (b off : Nat) (X : Nat → Nat) (m : Int) (w : World) (hX : WSet w b off 11 X) (hm : W64 m) (h0 : 0 ≤ bareI m) (h1 : bareI m ≤ 700) :
    Calls Tryd.prog 42 #[.pointer (some ⟨b, off, none⟩), .int .i64 m] w fun e w' => e = .returned (.tuple #[]) ∧ WSet w' b off 11 (addW X (bareI m).toNat) ∧ w'.heap.size = w.heap.size ∧ Mov b w w' := by
  obtain ⟨k, hk⟩ := Int.eq_ofNat_of_zero_le h0
  have hk' : k ≤ 700 := by omega
  obtain ⟨x1, x2⟩ := hX.1 (k / 64) (by omega)
  have f2 := hX.2 (k / 64) (by omega)
  obtain ⟨i, hi⟩ : ∃ i, i = k / 64 := ⟨_, rfl⟩
  obtain ⟨j, hj⟩ : ∃ j, j = k % 64 := ⟨_, rfl⟩
  have i1 : i < 11 := by omega
  have j1 : j < 64 := by omega
  have q1 : (k : Int) / 64 = (i : Int) := by omega
  have q2 : (k : Int) % 64 = (j : Int) := by omega
  have q3 : (k : Int).tdiv 64 = (i : Int) := by rw [Int.tdiv_eq_ediv_of_nonneg (by omega)]; exact q1
  have q4 : (k : Int).tmod 64 = (j : Int) := by rw [Int.tmod_eq_emod_of_nonneg (by omega)]; exact q2
  have hb : ∀ v, Calls Tryd.prog 75 #[.int .i64 m] v fun e w' => e = .returned (.int .i64 (k : Int)) ∧ w' = v := fun v => by
    rw [show (k : Int) = bareI m from hk.symm]
    exact bare_any _ _ hm
  rw [hk, Int.toNat_natCast]
  rw [← hi] at x1 x2 f2
  have b0 : (0 : Int) ≤ (i : Int) := by omega
  have b1 : (i : Int) < 11 := by omega
  have w1 : IntKind.i64.wrap (i : Int) = i := by rw [IntKind.wrap_i64]; omega
  have w2 : IntKind.i64.wrap (j : Int) = j := by rw [IntKind.wrap_i64]; omega
  have pj := pow_lt64 j1
  have e2 : ((2 : Int) ^ j) = ((2 ^ j : Nat) : Int) := by simp
  have w3 : IntKind.u64.wrap (2 ^ j) = (2 : Int) ^ j := by
    rw [e2, IntKind.wrap_u64]
    exact Int.emod_eq_of_lt (Int.natCast_nonneg _) (by omega)
  have w4 : bits .or .u64 (X i) ((2 : Int) ^ j) = ((X i ||| 2 ^ j : Nat) : Int) := by rw [e2]; exact u64_or_nat (X i) (2 ^ j) x1 pj
  have HV : Hid (∀ a c, WSet (((w.drewN a).setCell ⟨b, off + i, none⟩ (.int .u64 ((X i ||| 2 ^ j : Nat) : Int))).drewN c) b off 11 (addW X k)) := fun a c => by
    have h := hX.put i (X i ||| 2 ^ j) i1 (or_lt64 x1 pj) a c
    have e : addW X k = (fun l => if l = i then X i ||| 2 ^ j else X l) := by
      funext l
      unfold addW
      rw [← hi, ← hj]
      by_cases el : l = i
      · rw [if_pos el, if_pos el, el]
      · rw [if_neg el, if_neg el]
    rw [e]
    exact h
  clear e2 hX hi hj
  generalize hG : (((X i ||| 2 ^ j : Nat) : Int)) = G at *
  clear hG
  go_enter Tryd.func42, Tryd.ntmps42
  go_wp2
  go_region_with (first | (go_at_call 75; refine (hb _).mono ?_; rintro e wq ⟨rfl, rfl⟩))
  all_goals go_wp2
  all_goals (first | go_end0 | refine bodyPost_ret (results_none rfl _ _ _) rfl ?_)
  all_goals refine ⟨rfl, ?_, by simp, ?_⟩
  all_goals first | exact unhide HV 0 0 | exact unhide HV 0 1 | exact unhide HV 0 2 | exact unhide HV 1 0 | exact unhide HV 1 1 | exact Mov.set _ _ _ | exact (Mov.set _ _ _).drew
set_option maxRecDepth 100000 in
set_option maxHeartbeats 400000 in
theorem iNetLit_any (m : Int) (c : Option Addr) (n cap' : Nat) (B : Nat → Bool) (w : World) (hm : W64 m) (he : BlsAt w c n B) (hn : n ≤ 1048576) :
    Calls Tryd.prog 15 #[.slice c n cap', .int .i64 m] w fun e w' => e = .returned (.bool (metB m n B)) ∧ w' = w := by
  go_enter Tryd.func15, Tryd.ntmps15
  go_wp2_with fail
  refine (met_any _ _ _ _ _ _ hm he hn).mono ?_
  rintro e w1 ⟨rfl, rfl⟩
  go_wp2
  go_ret
  exact ⟨rfl, rfl⟩
def atB (L : List Bool) (i : Nat) : Bool := L.getD i false
/-- A list by its places. -/
def lst (l : Nat) (V : Nat → Bool) : List Bool := (List.range l).map V
theorem lst_len (l : Nat) (V : Nat → Bool) : (lst l V).length = l := by simp [lst]
theorem lst_at {l : Nat} {V : Nat → Bool} {i : Nat} (h : i < l) : atB (lst l V) i = V i := by simp [atB, lst, List.getD, h]

def bcells (L : List Bool) : List Value := L.map Value.bool
theorem bcells_snoc (L : List Bool) (x : Bool) : bcells (L ++ [x]) = bcells L ++ [.bool x] := by simp [bcells]
theorem own_bls {w : World} {base g n cap : Nat} {e : TypeId} {L : List Bool} (h : w.ownsRow base e 1 (.slice (some ⟨g, 0, none⟩) n cap) n (bcells L)) (hn : L.length = n) : Bls w g 0 n (atB L) := by
  intro i hi
  have hl : i < L.length := by omega
  have hc := h.cells (g := g) rfl i (.bool (atB L i)) (by simp [bcells, atB, List.getD, hl])
  rwa [Go.WideShapes.add_plain] at hc
theorem own_bols {w : World} {base g n cap : Nat} {e : TypeId} {L : List Bool} (h : w.ownsRow base e 1 (.slice (some ⟨g, 0, none⟩) n cap) n (bcells L)) : L.length = n := by
  have := h.1
  simpa [bcells] using this
theorem own_blsAt {w : World} {base g n cap : Nat} {e : TypeId} {L : List Bool} (h : w.ownsRow base e 1 (.slice (some ⟨g, 0, none⟩) n cap) n (bcells L)) : BlsAt w (some ⟨g, 0, none⟩) n (atB L) := Or.inr ⟨g, 0, rfl, (own_cap h).2, own_bls h (own_bols h)⟩
theorem infoBoo : (Tryd.prog.info? 4).map (fun i => (i.zero, i.size, i.bytes)) = some (some (.bool false), 1, 1) := by kernel_rfl
theorem bol_one (w : World) (base : Nat) (v : Value) (n : Nat) (L : List Bool) (x : Bool) (hown : w.ownsRow base 4 1 v n (bcells L)) (h63 : n + 1 ≤ 1000000) (hbase : base ≤ w.heap.size) :
    ∃ g' cap' w', (Builtin.append_ #[32, 32] 32 #[v, .slice (some ⟨w.heap.size, 0, none⟩) 1 1]).run Tryd.prog (w.alloc (.cells #[.bool x] 4)) = .ok (.slice (some ⟨g', 0, none⟩) (n + 1) cap') w' ∧ w'.ownsRow base 4 1 (.slice (some ⟨g', 0, none⟩) (n + 1) cap') (n + 1) (bcells (L ++ [x])) ∧ w.grownBy w' v.ownBlock ∧ (v.ownBlock = some g' ∨ w.heap.size ≤ g') := by
  obtain ⟨i0, hi0, hzz⟩ := Option.map_eq_some_iff.1 infoBoo
  simp only [Prod.mk.injEq] at hzz
  obtain ⟨hz0, hz1, hz2⟩ := hzz
  rw [bcells_snoc]
  exact append_one (P := Tryd.prog) w base 32 32 4 i0 _ 1 Tryd.underlying32 hi0 hz0 hz1 hz2 rfl v n (bcells L) hown _ rfl h63 (by omega) hbase
/-- What a gate says, by what is so ahead of it. -/
def gval (g : Gt) (L : List Bool) : Bool := if g.x then metB g.a L.length (atB L) != metB g.b L.length (atB L) else metB g.a L.length (atB L) && metB g.b L.length (atB L)
/-- What is so, up to a gate. -/
def outL (I : List Bool) (G : Nat → Gt) : Nat → List Bool
  | 0 => true :: I
  | j + 1 => outL I G j ++ [gval (G j) (outL I G j)]
theorem outL_len (I : List Bool) (G : Nat → Gt) : ∀ j, (outL I G j).length = 1 + I.length + j
  | 0 => by simp [outL]; omega
  | j + 1 => by simp [outL, outL_len I G j]; omega
/-- What is so, of a net and of what comes in. -/
noncomputable def nvL (m : Int) (n : Nat) (G : Nat → Gt) (I : List Bool) : List Bool := if netB m n G = true ∧ (I.length : Int) = m then outL I G n else []
theorem own_lone (w : World) (u : Value) (e : TypeId) (h : u.oneCell' = true) : (w.alloc (.cells #[u] e)).ownsRow w.heap.size e 1 (.slice (some ⟨w.heap.size, 0, none⟩) 1 1) 1 [u] :=
  ⟨by simp, .inr ⟨w.heap.size, 1, #[u], rfl, Nat.le_refl _, heap_alloc_new w _, Nat.le_refl _, by unfold maxLen; omega, by simp, by simp⟩⟩
/-- What is always so, and what comes in behind it. -/
theorem bol_start (w : World) (I : List Bool) (b off l cap : Nat) (hb : b < w.heap.size) (hI : I.length = l) (hi : Bls w b off l (atB I)) (h63 : l ≤ 100000) :
    ∃ g' cap' w', (Builtin.append_ #[32, 32] 32 #[.slice (some ⟨w.heap.size, 0, none⟩) 1 1, .slice (some ⟨b, off, none⟩) l cap]).run Tryd.prog (w.alloc (.cells #[.bool true] 4)) = .ok (.slice (some ⟨g', 0, none⟩) (1 + l) cap') w' ∧ w'.ownsRow w.heap.size 4 1 (.slice (some ⟨g', 0, none⟩) (1 + l) cap') (1 + l) (bcells (true :: I)) ∧ Below w.heap.size w w' := by
  obtain ⟨i0, hi0, hzz⟩ := Option.map_eq_some_iff.1 infoBoo
  simp only [Prod.mk.injEq] at hzz
  obtain ⟨hz0, hz1, hz2⟩ := hzz
  have b4 : Below w.heap.size w (w.alloc (.cells #[.bool true] 4)) := (Below.refl _ _).alloc (Nat.le_refl _) _
  obtain ⟨g', cap', w', h1, h2, h3, _⟩ := append_where (P := Tryd.prog) (w.alloc (.cells #[.bool true] 4)) w.heap.size 32 32 4 i0 _ 1 1 Tryd.underlying32 hi0 hz0 hz1 hz2 rfl (by omega) w.heap.size 1 1 [.bool true] (own_lone w (.bool true) 4 rfl) ⟨b, off, none⟩ l cap (bcells I) (by simp [bcells, hI]) (by
    intro j u hj
    have hj' : j < I.length := by
      have := (List.getElem?_eq_some_iff.1 hj).1
      simpa [bcells] using this
    have := cell_later b4 (hi j (by omega))
    rw [Go.WideShapes.add_plain, this]
    simp [bcells, hj'] at hj
    rw [← hj]
    simp [atB, List.getD, hj']) (by
    intro u hu
    simp [bcells] at hu
    rcases hu with ⟨_, rfl⟩ | ⟨_, rfl⟩ <;> rfl) (by unfold maxLen; omega) (by omega) (by simp)
  exact ⟨g', cap', w', h1, h2, b4.trans ((mov_of_grown h3).below (Nat.le_refl _) b4.size)⟩
def b2 (b : Bool) : Int := if b then 1 else 0
def pw (v : Bool) (j : Nat) : Nat := if v then 2 ^ j else 0
/-- A mark, with its sign, by a set. -/
def sgnW (X : Nat → Nat) (m : Int) : Bool := inW X (bareI m).toNat != decide (m < 0)
theorem bitv (x j : Nat) (hx : x < 18446744073709551616) : bits .and .u64 ((x : Int) / 2 ^ j) 1 = b2 (x.testBit j) := by
  have e : ((x : Int) / 2 ^ j) = ((x / 2 ^ j : Nat) : Int) := by simp
  have h := u64_and_nat (x / 2 ^ j) 1 (Nat.lt_of_le_of_lt (Nat.div_le_self _ _) hx) (by decide)
  rw [e, show (1 : Int) = ((1 : Nat) : Int) from rfl, h, Nat.and_one_is_mod, Nat.testBit_eq_decide_div_mod_eq]
  unfold b2
  rcases Nat.mod_two_eq_zero_or_one (x / 2 ^ j) with h | h <;> rw [h] <;> simp
theorem xorv (b : Bool) : bits .xor .u64 (b2 b) 1 = b2 (!b) := by cases b <;> decide
theorem xorv2 (b c : Bool) : bits .xor .u64 (b2 b) (b2 c) = b2 (b != c) := by cases b <;> cases c <;> decide
theorem andv2 (b c : Bool) : bits .and .u64 (b2 b) (b2 c) = b2 (b && c) := by cases b <;> cases c <;> decide
set_option maxRecDepth 100000 in
set_option maxHeartbeats 1000000 in
theorem bit_any (b off : Nat) (X : Nat → Nat) (m : Int) (w : World) (hX : Wds w b off 11 X) (hm : W64 m) (h0 : 0 ≤ bareI m) (h1 : bareI m ≤ 700) :
    Calls Tryd.prog 76 #[.pointer (some ⟨b, off, none⟩), .int .i64 m] w fun e w' => e = .returned (.int .u64 (b2 (sgnW X m))) ∧ ∃ n, w' = w.drewN n := by
  unfold sgnW
  obtain ⟨k, hk⟩ := Int.eq_ofNat_of_zero_le h0
  have hk' : k ≤ 700 := by omega
  obtain ⟨x1, x2⟩ := hX (k / 64) (by omega)
  rw [hk, Int.toNat_natCast]
  have HV : Hid (bits .and .u64 ((X (k / 64) : Int) / 2 ^ (k % 64)) 1 = b2 (inW X k)) := bitv _ _ x1
  by_cases hs : m < 0
  · go_enter Tryd.func76, Tryd.ntmps76
    go_wp2
    go_quiet ((go_at_call 75; exact Calls.quiet_of_same (bare_any _ _ hm)))
    go_wp2
    go_ret
    exact ⟨ret_int (by rw [unhide HV, xorv]; simp [hs]), _, rfl⟩
  · go_enter Tryd.func76, Tryd.ntmps76
    go_wp2
    go_quiet ((go_at_call 75; exact Calls.quiet_of_same (bare_any _ _ hm)))
    go_wp2
    go_ret
    exact ⟨ret_int (by rw [unhide HV]; have hd : decide (m < 0) = false := by simp; omega
                       rw [hd]; simp), _, rfl⟩
/-- A set with a place more, if that is so. -/
def setW (X : Nat → Nat) (k : Nat) (v : Bool) : Nat → Nat := if v then addW X k else X
theorem setW_eq (X : Nat → Nat) (k : Nat) (v : Bool) : setW X k v = fun l => if l = k / 64 then X l ||| pw v (k % 64) else X l := by
  funext l
  unfold setW addW
  cases v
  · simp [pw]
  · simp [pw]
theorem inW_setW (X : Nat → Nat) (k l : Nat) (v : Bool) : inW (setW X k v) l = (inW X l || (v && decide (l = k))) := by
  unfold setW
  cases v
  · simp
  · rw [if_pos rfl, inW_addW]; simp
/-- What a gate says by a set. -/
def gsay (X : Nat → Nat) (x : Bool) (p q : Int) : Bool := if x then sgnW X p != sgnW X q else sgnW X p && sgnW X q
set_option maxRecDepth 100000 in
set_option maxHeartbeats 1000000 in
theorem reckon_any (b off : Nat) (X : Nat → Nat) (k : Nat) (x : Bool) (p q : Int) (w : World) (hX : WSet w b off 11 X) (hk' : k ≤ 700) (hp : W64 p) (hq : W64 q) (p0 : 0 ≤ bareI p) (p1 : bareI p ≤ 700) (q0 : 0 ≤ bareI q) (q1 : bareI q ≤ 700) :
    Calls Tryd.prog 43 #[.pointer (some ⟨b, off, none⟩), .int .i64 k, .agg #[.bool x, .int .i64 p, .int .i64 q]] w fun e w' => e = .returned (.tuple #[]) ∧ WSet w' b off 11 (setW X k (gsay X x p q)) ∧ Mov b w w' := by
  obtain ⟨wz, hwz⟩ : ∃ wz, wz = w.alloc (.cells #[.bool x, .int .i64 p, .int .i64 q] 76) := ⟨_, rfl⟩
  have BZ : Below w.heap.size w wz := by rw [hwz]; exact (Below.refl _ _).alloc (Nat.le_refl _) _
  have r0 : wz.cell? ⟨w.heap.size, 0, none⟩ = some (.bool x) := by rw [hwz]; simp [go_sem]
  have r1 : wz.cell? ⟨w.heap.size, 1, none⟩ = some (.int .i64 p) := by rw [hwz]; simp [go_sem]
  have r2 : wz.cell? ⟨w.heap.size, 2, none⟩ = some (.int .i64 q) := by rw [hwz]; simp [go_sem]
  have hXz := hX.later BZ
  have HM : Hid (Mov b w wz) := Mov.of BZ
  obtain ⟨x1, x2⟩ := hXz.1 (k / 64) (by omega)
  have f2 := hXz.2 (k / 64) (by omega)
  have HX := hide hXz
  obtain ⟨i, hi⟩ : ∃ i, i = k / 64 := ⟨_, rfl⟩
  obtain ⟨j, hj⟩ : ∃ j, j = k % 64 := ⟨_, rfl⟩
  have i1 : i < 11 := by omega
  have j1 : j < 64 := by omega
  have q1' : (k : Int) / 64 = (i : Int) := by omega
  have q2' : (k : Int) % 64 = (j : Int) := by omega
  have q3 : (k : Int).tdiv 64 = (i : Int) := by rw [Int.tdiv_eq_ediv_of_nonneg (by omega)]; exact q1'
  have q4 : (k : Int).tmod 64 = (j : Int) := by rw [Int.tmod_eq_emod_of_nonneg (by omega)]; exact q2'
  rw [← hi] at x1 x2 f2
  have b0 : (0 : Int) ≤ (i : Int) := by omega
  have b1 : (i : Int) < 11 := by omega
  have w1 : IntKind.i64.wrap (i : Int) = i := by rw [IntKind.wrap_i64]; omega
  have w2 : IntKind.i64.wrap (j : Int) = j := by rw [IntKind.wrap_i64]; omega
  have pj := pow_lt64 j1
  have e2 : ((2 : Int) ^ j) = ((2 ^ j : Nat) : Int) := by simp
  have HE : Hid (∀ v : Bool, IntKind.u64.wrap (b2 v * 2 ^ j) = ((pw v j : Nat) : Int)) := fun v => by
    cases v
    · simp [b2, pw]; rfl
    · simp only [b2, pw, if_true, Int.one_mul]
      rw [e2, IntKind.wrap_u64]
      exact Int.emod_eq_of_lt (Int.natCast_nonneg _) (by omega)
  have HO : Hid (∀ v : Bool, bits .or .u64 (X i) ((pw v j : Nat) : Int) = ((X i ||| pw v j : Nat) : Int)) := fun v => u64_or_nat (X i) _ x1 (by cases v <;> simp [pw]; omega)
  have HV : Hid (∀ v a c, WSet (((wz.drewN a).setCell ⟨b, off + i, none⟩ (.int .u64 ((X i ||| pw v j : Nat) : Int))).drewN c) b off 11 (setW X k v)) := fun v a c => by
    have h := hXz.put i (X i ||| pw v j) i1 (or_lt64 x1 (by cases v <;> simp [pw]; omega)) a c
    have e : setW X k v = (fun l => if l = i then X i ||| pw v j else X l) := by
      rw [setW_eq]
      funext l
      rw [← hi, ← hj]
      by_cases el : l = i
      · rw [if_pos el, if_pos el, el]
      · rw [if_neg el, if_neg el]
    rw [e]
    exact h
  clear e2 hX hXz hi hj BZ
  have HZ := hide hwz
  cases x
  · have hg : gsay X false p q = (sgnW X p && sgnW X q) := rfl
    rw [hg]
    have HVV := hide (unhide HV (sgnW X p && sgnW X q))
    have HEE := hide (unhide HE (sgnW X p && sgnW X q))
    have HOO := hide (unhide HO (sgnW X p && sgnW X q))
    have HA := hide (andv2 (sgnW X p) (sgnW X q))
    clear HV HE HO hg hwz
    go_enter Tryd.func43, Tryd.ntmps43
    go_wp2
    rw [← unhide HZ]
    go_quiet ((go_at_call 76; exact Calls.quiet_of (bit_any _ _ X _ _ (unhide HX).1 (by assumption) (by assumption) (by assumption))))
    go_wp2
    rw [unhide HA]
    have he := unhide HEE
    have ho := unhide HOO
    generalize ((X i ||| pw (sgnW X p && sgnW X q) j : Nat) : Int) = Y at *
    generalize ((pw (sgnW X p && sgnW X q) j : Nat) : Int) = Z at *
    go_region
    all_goals go_wp2
    all_goals (first | go_end0 | refine bodyPost_ret (results_none rfl _ _ _) rfl ?_)
    all_goals refine ⟨rfl, (by first | exact unhide HVV _ 0 | exact unhide HVV _ 1 | exact unhide HVV _ 2), (by first | exact ((unhide HM).drewN _).trans (Mov.set _ _ _) | exact (((unhide HM).drewN _).trans (Mov.set _ _ _)).drew)⟩
  · have hg : gsay X true p q = (sgnW X p != sgnW X q) := rfl
    rw [hg]
    have HVV := hide (unhide HV (sgnW X p != sgnW X q))
    have HEE := hide (unhide HE (sgnW X p != sgnW X q))
    have HOO := hide (unhide HO (sgnW X p != sgnW X q))
    have HA := hide (xorv2 (sgnW X p) (sgnW X q))
    clear HV HE HO hg hwz
    go_enter Tryd.func43, Tryd.ntmps43
    go_wp2
    rw [← unhide HZ]
    go_quiet ((go_at_call 76; exact Calls.quiet_of (bit_any _ _ X _ _ (unhide HX).1 (by assumption) (by assumption) (by assumption))))
    go_wp2
    obtain ⟨wy, hwy⟩ : ∃ wy, wy = wz.drewN nq := ⟨_, rfl⟩
    have r1 : wy.cell? ⟨w.heap.size, 1, none⟩ = some (.int .i64 p) := by rw [hwy]; exact r1
    have r2 : wy.cell? ⟨w.heap.size, 2, none⟩ = some (.int .i64 q) := by rw [hwy]; exact r2
    have x2 : wy.cell? ⟨b, off + i, none⟩ = some (.int .u64 (X i)) := by rw [hwy]; exact x2
    have f2 : wy.frozen? ⟨b, off + i, none⟩ = false := by rw [hwy]; exact f2
    have HX : Hid (WSet wy b off 11 X) := by rw [hwy]; exact unhide HX
    have HM : Hid (Mov b w wy) := by rw [hwy]; exact (unhide HM).drewN _
    have HVV : Hid (∀ a c, WSet (((wy.drewN a).setCell ⟨b, off + i, none⟩ (.int .u64 ((X i ||| pw (sgnW X p != sgnW X q) j : Nat) : Int))).drewN c) b off 11 (setW X k (sgnW X p != sgnW X q))) := fun a c => by
      have h := unhide HVV (nq + a) c
      rw [← World.drewN_drewN, ← hwy] at h
      exact h
    rw [← hwy]
    clear hwy
    go_quiet ((go_at_call 76; exact Calls.quiet_of (bit_any _ _ X _ _ (unhide HX).1 (by assumption) (by assumption) (by assumption))))
    go_wp2
    rw [unhide HA]
    have he := unhide HEE
    have ho := unhide HOO
    generalize ((X i ||| pw (sgnW X p != sgnW X q) j : Nat) : Int) = Y at *
    generalize ((pw (sgnW X p != sgnW X q) j : Nat) : Int) = Z at *
    go_region
    all_goals go_wp2
    all_goals (first | go_end0 | refine bodyPost_ret (results_none rfl _ _ _) rfl ?_)
    all_goals refine ⟨rfl, (by first | exact unhide HVV _ 0 | exact unhide HVV _ 1 | exact unhide HVV _ 2), (by first | exact ((unhide HM).drewN _).trans (Mov.set _ _ _) | exact (((unhide HM).drewN _).trans (Mov.set _ _ _)).drew)⟩
/-- A set has just the marks that a list says. -/
def SoP (X : Nat → Nat) (L : List Bool) : Prop := ∀ k, inW X k = (decide (1 ≤ k) && atB L (k - 1))
theorem atB_out {L : List Bool} {i : Nat} (h : L.length ≤ i) : atB L i = false := by simp [atB, List.getD, h]
theorem atB_snoc (L : List Bool) (v : Bool) (i : Nat) : atB (L ++ [v]) i = (atB L i || (v && decide (i = L.length))) := by
  unfold atB
  simp only [List.getD_eq_getElem?_getD]
  by_cases h : i < L.length
  · rw [List.getElem?_append_left h]
    have : decide (i = L.length) = false := by simp; omega
    rw [this]; simp
  · by_cases e : i = L.length
    · subst e; simp
    · rw [List.getElem?_eq_none (by simp; omega), List.getElem?_eq_none (by omega)]
      simp [e]
theorem SoP.next {X : Nat → Nat} {L : List Bool} (h : SoP X L) (v : Bool) : SoP (setW X (L.length + 1) v) (L ++ [v]) := by
  intro k
  rw [inW_setW, h k, atB_snoc]
  by_cases h0 : 1 ≤ k
  · have e : decide (k = L.length + 1) = decide (k - 1 = L.length) := by rw [Bool.eq_iff_iff]; simp; omega
    rw [e]
    simp [h0]
  · have e : k = 0 := by omega
    subst e
    simp
theorem SoP.one : SoP (addW (fun _ => 0) 1) [true] := by
  intro k
  rw [inW_addW, inW_zero]
  by_cases e : k = 1
  · subst e; simp [atB]
  · by_cases h : k = 0
    · subst h; simp
    · have : atB [true] (k - 1) = false := atB_out (by simp; omega)
      rw [this]; simp [e]
theorem SoP.sgn {X : Nat → Nat} {L : List Bool} (h : SoP X L) {p : Int} (h1 : 1 ≤ absI p) (h2 : absI p ≤ L.length) (h3 : L.length ≤ 1048576) : sgnW X p = metB p L.length (atB L) := by
  unfold sgnW
  rcases met_ways L.length p with ⟨j, hj, rfl⟩ | ⟨j, hj, rfl⟩ | ho
  · rw [met_pos hj, bareI_pos (by omega), h]
    have e1 : ((j : Int) + 1).toNat = j + 1 := by omega
    have e2 : decide (((j : Int) + 1) < 0) = false := by simp; omega
    rw [e1, e2]; simp
  · rw [met_neg hj, bareI_neg (by omega) (by omega), h]
    have e1 : (-(-((j : Int) + 1))).toNat = j + 1 := by omega
    have e2 : decide (-((j : Int) + 1) < 0) = true := by simp <;> omega
    rw [e1, e2]; simp
  · unfold absI at h1 h2
    split at h1 <;> split at h2 <;> omega
theorem SoP.gate {X : Nat → Nat} {L : List Bool} (h : SoP X L) {g : Gt} (hg : GmP (L.length + 1) g) (h3 : L.length ≤ 1048576) : gsay X g.x g.a g.b = gval g L := by
  unfold gsay gval
  obtain ⟨h1, h2, h4, _⟩ := hg
  rw [h.sgn (p := g.a) (by omega) (by omega) h3, h.sgn (p := g.b) (by omega) (by omega) h3]
theorem nvL_no {m : Int} {n : Nat} {G : Nat → Gt} {I : List Bool} (h : ¬ (netB m n G = true ∧ (I.length : Int) = m)) : nvL m n G I = [] := if_neg h
theorem nvL_yes {m : Int} {n : Nat} {G : Nat → Gt} {I : List Bool} (h : netB m n G = true) (h' : (I.length : Int) = m) : nvL m n G I = outL I G n := if_pos ⟨h, h'⟩
theorem nvL_le {m : Int} {n : Nat} {G : Nat → Gt} {I : List Bool} : (nvL m n G I).length ≤ 609 := by
  by_cases h : netB m n G = true ∧ (I.length : Int) = m
  · rw [nvL_yes h.1 h.2, outL_len]
    obtain ⟨h1, h2, h3, _⟩ := netB_iff.1 h.1
    have := h.2
    omega
  · rw [nvL_no h]; simp
/-- What NetVals hands back. -/
def VPost (L : List Bool) (base : Nat) (e : Ending) (w' : World) : Prop := ∃ a cap, e = .returned (.slice a L.length cap) ∧ BlsAt w' a L.length (atB L) ∧ OwnB w' base a L.length
set_option maxRecDepth 100000 in
set_option maxHeartbeats 8000000 in
theorem iNetVals_any (m : Int) (a : Option Addr) (n cap : Nat) (G : Nat → Gt) (I : List Bool) (b off l c : Nat) (w : World) (hd : GtsAt w a n G) (hw : WG n G) (hn : n ≤ 1048576) (hl : l ≤ 1048576) (hI : I.length = l) (hb : b < w.heap.size) (hi : Bls w b off l (atB I)) :
    Calls Tryd.prog 10 #[.agg #[.int .i64 m, .slice a n cap], .slice (some ⟨b, off, none⟩) l c] w fun e w' => VPost (nvL m n G I) w.heap.size e w' ∧ Below w.heap.size w w' := by
  have HD := hide hd
  have HW := hide hw
  have HI := hide hi
  clear hd hw hi
  obtain ⟨wz, hwz⟩ : ∃ wz, wz = w.alloc (.cells #[.int .i64 m, .slice a n cap] 25) := ⟨_, rfl⟩
  have BZ : Below w.heap.size w wz := by rw [hwz]; exact (Below.refl _ _).alloc (Nat.le_refl _) _
  have NB : NBox wz w.heap.size m a n cap := by rw [hwz]; exact NBox.new _ _ _ _ _ _
  have HZ := hide hwz
  clear hwz
  go_enter Tryd.func10, Tryd.ntmps10
  go_wp2_with fail
  rw [← unhide HZ]
  refine (iNetOk_any _ _ _ _ _ _ ((unhide HD).later BZ) (unhide HW) hn).mono ?_
  rintro e w1 ⟨rfl, b1⟩
  have NB1 := NB.later b1
  obtain ⟨p0, p1⟩ := NB.later b1
  have B1 := BZ.trans (b1.mono BZ.size)
  clear b1 NB
  cases hP : netB m n G
  · have HN := hide (nvL_no (I := I) (fun h => by rw [hP] at h; exact absurd h.1 (by simp)) : nvL m n G I = [])
    go_wp2
    go_ret
    rw [unhide HN]
    exact ⟨⟨_, _, rfl, Or.inl rfl, Or.inl rfl⟩, B1⟩
  · by_cases hm : (l : Int) = m
    · subst hm
      obtain ⟨hm0, hm1, hn6, hgs⟩ := netB_iff.1 hP
      have HG := hide hgs
      have HN := hide (nvL_yes hP (by rw [hI]) : nvL (l : Int) n G I = outL I G n)
      have kb : ((l : Int) != (l : Int)) = false := by simp
      have HNB := hide NB1
      have wl : w.heap.size < w1.heap.size := World.block_lt_of_cell? _ _ p0
      clear hgs hP NB1
      go_wp2_with fail
      refine (add_any _ _ (fun _ => 0) 1 _ (WSet.new w1 _) (by unfold W64; omega) (by decide) (by decide)).mono ?_
      rintro e w2 ⟨rfl, hx2, hz2, mv2⟩
      have e1 : (bareI 1).toNat = 1 := by decide
      rw [e1] at hx2
      have HX2 := hide hx2
      have hz2' : w2.heap.size = w1.heap.size + 1 := by rw [hz2]; simp
      have HM2 : Hid (Mov w1.heap.size w1 w2) := (Mov.of ((Below.refl _ _).alloc (Nat.le_refl _) _)).trans mv2
      have BL2 : Below w.heap.size w w2 := B1.trans ((unhide HM2).below B1.size B1.size)
      have HNB2 : Hid (NBox w2 w.heap.size l a n cap) := ⟨(unhide HM2).cell p0 (by simp only; omega), (unhide HM2).cell p1 (by simp only; omega)⟩
      clear hx2 mv2 e1 p0 p1 hz2
      go_wp2
      go_loopw [26] (fun i wr => ∃ (j : Nat) (X : Nat → Nat), j ≤ l ∧ i = .int .i64 j ∧ SoP X (true :: I.take j) ∧ WSet wr w1.heap.size 0 11 X ∧ NBox wr w.heap.size l a n cap ∧ w2.heap.size ≤ wr.heap.size ∧ Below w.heap.size w wr) (fun i _ => l - (intOf i).toNat)
      case atStart => exact ⟨0, _, by omega, rfl, by simpa using SoP.one, unhide HX2, unhide HNB2, Nat.le_refl _, BL2⟩
      case round =>
        obtain ⟨j, X, hj, rfl, hso, hws, hnb, hsz, hbel⟩ := hrel
        have HS := hide hso
        have HX := hide hws
        have HB := hide hnb
        clear hso hws hnb
        by_cases hlt : j < l
        · have d0 := (hbel.cell (p := ⟨b, off + j, none⟩) hb).trans (unhide HI j hlt)
          have hlen : (true :: I.take j).length + 1 = 2 + j := by simp [hI]; omega
          have hnx : true :: I.take (j + 1) = (true :: I.take j) ++ [atB I j] := by
            have hj' : j < I.length := by omega
            rw [List.take_add_one]
            simp [atB, List.getD, hj']
          have HS1 : Hid (SoP (setW X (2 + j) (atB I j)) (true :: I.take (j + 1))) := by
            rw [hnx, ← hlen]; exact (unhide HS).next _
          clear hnx hlen
          cases hv : atB I j
          · rw [hv] at d0
            have HS2 : Hid (SoP X (true :: I.take (j + 1))) := by have h := unhide HS1; rw [hv] at h; exact h
            clear hv
            go_wp2
            go_roundw
            case rel => exact ⟨j + 1, X, by omega, by go_num, unhide HS2, unhide HX, unhide HB, hsz, hbel⟩
            case measure => simp [intOf]; omega
          · rw [hv] at d0
            have HS2 : Hid (SoP (addW X (2 + j)) (true :: I.take (j + 1))) := by have h := unhide HS1; rw [hv] at h; exact h
            clear hv
            have hba : bareI (2 + (j : Int)) = 2 + (j : Int) := bareI_pos (by omega)
            have hbn : (2 + (j : Int)).toNat = 2 + j := by omega
            go_wp2_with fail
            refine (add_any _ _ X _ _ (unhide HX) (by unfold W64; omega) (by rw [hba]; omega) (by rw [hba]; omega)).mono ?_
            rintro e w3 ⟨rfl, hx3, hz3, mv3⟩
            rw [hba, hbn] at hx3
            have HX3 := hide hx3
            have B3 : Below w.heap.size w w3 := hbel.trans (mv3.below (by omega) hbel.size)
            have HB3 : Hid (NBox w3 w.heap.size l a n cap) := ⟨mv3.cell (unhide HB).1 (by simp only; omega), mv3.cell (unhide HB).2 (by simp only; omega)⟩
            clear hx3 mv3
            go_wp2
            go_roundw
            case rel => exact ⟨j + 1, _, by omega, by go_num, unhide HS2, unhide HX3, unhide HB3, by omega, B3⟩
            case measure => simp [intOf]; omega
        · have ej : j = l := by omega
          subst ej
          have HS0 : Hid (SoP X (outL I G 0)) := by have h := unhide HS; rw [List.take_of_length_le (by omega)] at h; exact h
          obtain ⟨p0, p1⟩ := id (unhide HB)
          go_wp2
          go_loopw [39] (fun i wr => ∃ (k : Nat) (X : Nat → Nat), k ≤ n ∧ i = .int .i64 k ∧ SoP X (outL I G k) ∧ WSet wr w1.heap.size 0 11 X ∧ NBox wr w.heap.size j a n cap ∧ w2.heap.size ≤ wr.heap.size ∧ Below w.heap.size w wr) (fun i _ => n - (intOf i).toNat)
          case atStart => exact ⟨0, X, by omega, rfl, unhide HS0, unhide HX, unhide HB, hsz, hbel⟩
          case round =>
            obtain ⟨k, X, hk, rfl, hso, hws, hnb, hsz, hbel⟩ := hrel
            have HS := hide hso
            clear hso
            obtain ⟨p0, p1⟩ := id hnb
            by_cases hlt : k < n
            · obtain ⟨b', off', rfl, hb', hd⟩ := (unhide HD).ok hlt
              obtain ⟨c0, c1, c2⟩ := hd k hlt
              have d0 := (hbel.cell (p := ⟨b', off' + k * 3, none⟩) hb').trans c0
              have d1 := (hbel.cell (p := ⟨b', off' + k * 3 + 1, none⟩) hb').trans c1
              have d2 := (hbel.cell (p := ⟨b', off' + k * 3 + 2, none⟩) hb').trans c2
              clear c0 c1 c2 hd
              obtain ⟨wa, wb⟩ := unhide HW k hlt
              have hg := (unhide HG k hlt).1
              have hlen : (outL I G k).length = 1 + j + k := by rw [outL_len, hI]
              have hgm : GmP ((outL I G k).length + 1) (G k) := by
                have e : (((outL I G k).length : Int) + 1) = 2 + (j : Int) + (k : Int) := by rw [hlen]; omega
                rw [e]; exact hg
              have hgs : gsay X (G k).x (G k).a (G k).b = gval (G k) (outL I G k) := (unhide HS).gate hgm (by rw [hlen]; omega)
              have HS1 : Hid (SoP (setW X (2 + j + k) (gsay X (G k).x (G k).a (G k).b)) (outL I G (k + 1))) := by
                rw [hgs]
                have h := (unhide HS).next (gval (G k) (outL I G k))
                rw [hlen] at h
                have e : 1 + j + k + 1 = 2 + j + k := by omega
                rw [e] at h
                exact h
              have ha := absI_bd (G k).a (2 + j + k) (by have := hg.bd; omega) (by have := hg.bd; omega)
              have hbb := absI_bd (G k).b (2 + j + k) (by have := hg.bd; omega) (by have := hg.bd; omega)
              have ea : bareI (G k).a = absI (G k).a := bare_abs (N := 2 + j + k) (by have := hg.bd; omega) (by have := hg.bd; omega) (by omega)
              have eb : bareI (G k).b = absI (G k).b := bare_abs (N := 2 + j + k) (by have := hg.bd; omega) (by have := hg.bd; omega) (by omega)
              rw [← ea] at ha
              rw [← eb] at hbb
              have a1 : bareI (G k).a ≤ 700 := by omega
              have b1 : bareI (G k).b ≤ 700 := by omega
              have a0 := ha.1
              have b0 := hbb.1
              clear hgs ea eb ha hbb hg hlen hgm
              have wr1 : w.heap.size < wr.heap.size := by omega
              have wr2 : w1.heap.size < wr.heap.size := by omega
              have WS := hws
              have BL := hbel
              have sz := hsz
              clear hws
              go_wp2
              obtain ⟨wy, hwy⟩ : ∃ wy, wy = wr.alloc (.cells #[.bool (G k).x, .int .i64 (G k).a, .int .i64 (G k).b] 76) := ⟨_, rfl⟩
              have bY : Below wr.heap.size wr wy := by rw [hwy]; exact (Below.refl _ _).alloc (Nat.le_refl _) _
              have q0 : wy.cell? ⟨wr.heap.size, 0, none⟩ = some (.bool (G k).x) := by rw [hwy]; simp [go_sem]
              have q1 : wy.cell? ⟨wr.heap.size, 1, none⟩ = some (.int .i64 (G k).a) := by rw [hwy]; simp [go_sem]
              have q2 : wy.cell? ⟨wr.heap.size, 2, none⟩ = some (.int .i64 (G k).b) := by rw [hwy]; simp [go_sem]
              rw [← hwy]
              clear hwy
              replace p0 := cell_later bY p0
              replace p1 := cell_later bY p1
              replace WS := WS.later bY
              replace BL := BL.trans (bY.mono BL.size)
              replace sz := Nat.le_trans sz bY.size
              clear bY d0 d1 d2
              have hwr : IntKind.i64.wrap (2 + (j : Int) + (k : Int)) = ((2 + j + k : Nat) : Int) := by rw [IntKind.wrap_i64]; omega
              go_region_held3 (fun w' => w'.cell? ⟨w.heap.size, 0, none⟩ = some (.int .i64 (j : Int)) ∧ w'.cell? ⟨w.heap.size, 1, none⟩ = some (.slice (some ⟨b', off', none⟩) n cap) ∧ w'.cell? ⟨wr.heap.size, 0, none⟩ = some (.bool (G k).x) ∧ w'.cell? ⟨wr.heap.size, 1, none⟩ = some (.int .i64 (G k).a) ∧ w'.cell? ⟨wr.heap.size, 2, none⟩ = some (.int .i64 (G k).b)) (first | go_keep | exact ⟨p0, p1, q0, q1, q2⟩)
                (first | (go_at_call 44; refine (firstGate_any _ _ _ _ _ hm0 hm1).mono ?_; rintro e wq ⟨rfl, bq⟩; have BL := (by first | exact BL.trans (bq.mono BL.size) | exact BL.drew.trans (bq.mono BL.size)); have sz := Nat.le_trans (by exact sz) bq.size; have WS := WSet.later (by first | exact WS | exact WS.drewN 1 | exact WS.drewN 2) bq; have p0 := cell_later bq (by exact p0); have p1 := cell_later bq (by exact p1); have q0 := cell_later bq (by exact q0); have q1 := cell_later bq (by exact q1); have q2 := cell_later bq (by exact q2)) | (go_at_call 43; (try rw [hwr]); refine (reckon_any w1.heap.size 0 X (2 + j + k) _ _ _ _ (by first | exact WS | exact WS.drewN 1 | exact WS.drewN 2) (by omega) wa wb a0 a1 b0 b1).mono ?_; rintro e wp ⟨rfl, WT, mp⟩; have BL := (by first | exact BL.trans (mp.below (by omega) BL.size) | exact BL.drew.trans (mp.below (by omega) BL.size)); have sz := Nat.le_trans (by exact sz) mp.size; have p0 := mp.cell (by exact p0) (by simp only; omega); have p1 := mp.cell (by exact p1) (by simp only; omega); have q0 := mp.cell (by exact q0) (by simp only; omega); have q1 := mp.cell (by exact q1) (by simp only; omega); have q2 := mp.cell (by exact q2) (by simp only; omega)))
              all_goals go_wp2
              all_goals go_roundw
              all_goals first | exact ⟨k + 1, _, by omega, by go_num, unhide HS1, (by first | exact WT | exact WT.drewN 1), ⟨p0, p1⟩, sz, (by first | exact BL | exact BL.drew)⟩ | (simp [intOf]; omega)
            · have ek : k = n := by omega
              subst ek
              have hlen : (outL I G k).length = 1 + j + k := by rw [outL_len, hI]
              have hN := unhide HN
              obtain ⟨L, hL⟩ : ∃ L, L = outL I G k := ⟨_, rfl⟩
              rw [← hL] at hlen hN
              have HNL := hide hN
              have HSL : Hid (SoP X L) := by rw [hL]; exact unhide HS
              obtain ⟨N, hNe⟩ : ∃ N, N = 1 + j + k := ⟨_, rfl⟩
              rw [← hNe] at hlen
              have hcast : (1 + (j : Int) + (k : Int)) = (N : Int) := by omega
              have hN7 : N ≤ 700 := by omega
              have hmk := run_make_wide (P := Tryd.prog) 32 4 _ 1 1 Tryd.underlying32 infoBoo .i64 .i64 N (by omega) (by omega)
              simp only [Nat.mul_one] at hmk
              have HLEN := hide hlen
              have wr2 : w1.heap.size < wr.heap.size := by omega
              clear hL hN hlen hNe HS HN
              go_wp2_with fail
              refine (netMany_any _ _ _ _ _ hm0 hm1 (by omega)).mono ?_
              rintro e w5 ⟨rfl, b5⟩
              rw [hcast]
              have HX5 := hide (hws.later b5)
              have B5 := hbel.trans (b5.mono hbel.size)
              have wr5 := Nat.lt_of_lt_of_le wr2 b5.size
              have ws5 := B5.size
              clear b5 hws hcast p0 p1
              go_wp2
              go_loopw [56] (fun i wq => ∃ t : Nat, t ≤ N ∧ i = .int .i64 t ∧ Bls wq w5.heap.size 0 t (atB L) ∧ Made wq w5.heap.size N ∧ WSet wq w1.heap.size 0 11 X ∧ Below w.heap.size w wq) (fun i _ => N - (intOf i).toNat)
              case atStart =>
                have b6 : Below w5.heap.size w5 (w5.alloc (.cells (madeCells (Value.bool false).cells N) 4)) := (Below.refl _ _).alloc (Nat.le_refl _) _
                exact ⟨0, by omega, rfl, fun i hi => by omega, Made.new _ _ _ _, (unhide HX5).later b6, B5.trans (b6.mono B5.size)⟩
              case round =>
                obtain ⟨t, ht, rfl, hbt, hmt, hxt, hbelt⟩ := hrel
                have HBt := hide hbt
                have HMt := hide hmt
                have HXt := hide hxt
                clear hbt hmt hxt
                by_cases hlt2 : t < N
                · have hba : bareI ((t : Int) + 1) = (t : Int) + 1 := bareI_pos (by omega)
                  have hv : inW X ((t : Int) + 1).toNat = atB L t := by
                    have e : ((t : Int) + 1).toNat = t + 1 := by omega
                    rw [e, unhide HSL]; simp
                  have lt5 := (unhide HMt).1
                  go_wp2_with fail
                  refine (has_any _ _ X _ _ (unhide HXt).1 (by unfold W64; omega) (by rw [hba]; omega) (by rw [hba]; omega)).mono ?_
                  rintro e w6 ⟨rfl, nn, rfl⟩
                  rw [hba, hv]
                  obtain ⟨⟨u0, q0⟩, f0⟩ := (unhide HMt).2 t (by omega)
                  have q0' : (wr.drewN nn).cell? ⟨w5.heap.size, t, none⟩ = some u0 := q0
                  have f0' : (wr.drewN nn).frozen? ⟨w5.heap.size, t, none⟩ = false := f0
                  have HP := hide (Bls.put (w := wr.drewN nn) (unhide HBt) q0')
                  have HM6 := hide (Made.set (w := wr.drewN nn) (unhide HMt) ⟨w5.heap.size, t, none⟩ (.bool (atB L t)))
                  have HX6 : Hid (WSet ((wr.drewN nn).setCell ⟨w5.heap.size, t, none⟩ (.bool (atB L t))) w1.heap.size 0 11 X) := WSet.mov (w := wr.drewN nn) ((unhide HXt).drewN nn) (Mov.set _ _ _) (by omega)
                  clear q0 f0 hv
                  go_wp2
                  go_roundw
                  case rel => exact ⟨t + 1, by omega, by go_num, unhide HP, unhide HM6, unhide HX6, (below_drewN hbelt nn).setCell (by simp only; omega) _⟩
                  case measure => simp [intOf]; omega
                · have et : t = N := by omega
                  subst et
                  go_wp2
                  go_ret
                  rw [unhide HNL]
                  refine ⟨⟨some ⟨w5.heap.size, 0, none⟩, t, by rw [unhide HLEN]; rfl, ?_, ?_⟩, hbelt⟩
                  · rw [unhide HLEN]; exact (unhide HBt).at (unhide HMt).1
                  · rw [unhide HLEN]; exact Or.inr ⟨_, rfl, ws5, unhide HMt⟩
    · have HN := hide (nvL_no (I := I) (fun h => hm (by rw [← hI]; exact h.2)) : nvL m n G I = [])
      have kb : ((l : Int) != m) = true := by simp [hm]
      go_wp2
      go_ret
      rw [unhide HN]
      exact ⟨⟨_, _, rfl, Or.inl rfl, Or.inl rfl⟩, B1⟩
/-- Two nets are one. -/
noncomputable def nsB (m m' : Int) (n n' : Nat) (G G' : Nat → Gt) : Bool := m == m' && geB n n' G G'
set_option maxRecDepth 100000 in
set_option maxHeartbeats 1000000 in
theorem iNetSame_any (m m' : Int) (a c : Option Addr) (n n' cap cap' : Nat) (G G' : Nat → Gt) (w : World) (hd : GtsAt w a n G) (hd' : GtsAt w c n' G') (hn : n ≤ 1048576) (hn' : n' ≤ 1048576) :
    Calls Tryd.prog 9 #[.agg #[.int .i64 m, .slice a n cap], .agg #[.int .i64 m', .slice c n' cap']] w fun e w' => e = .returned (.bool (nsB m m' n n' G G')) ∧ Below w.heap.size w w' := by
  have HD := hide hd
  have HE := hide hd'
  clear hd hd'
  unfold nsB
  by_cases hm : m = m'
  · subst hm
    have kb0 : (m == m) = true := by simp
    simp only [BEq.rfl, Bool.true_and]
    go_enter Tryd.func9, Tryd.ntmps9
    go_wp2_with fail
    obtain ⟨wz, hwz⟩ : ∃ wz, wz = (w.alloc (.cells #[.int .i64 m, .slice a n cap] 25)).alloc (.cells #[.int .i64 m, .slice c n' cap'] 25) := ⟨_, rfl⟩
    have BZ : Below w.heap.size w wz := by rw [hwz]; exact ((Below.refl _ _).alloc (Nat.le_refl _) _).alloc (by simp) _
    rw [← hwz]
    refine (gequal_any _ _ _ _ _ _ _ _ wz ((unhide HD).later BZ) ((unhide HE).later BZ) hn hn').mono ?_
    rintro e wq ⟨rfl, bq⟩
    go_wp2
    go_ret
    exact ⟨rfl, BZ.trans (bq.mono BZ.size)⟩
  · have kc : (m == m') = false := by simp [hm]
    rw [kc, Bool.false_and]
    go_enter Tryd.func9, Tryd.ntmps9
    go_wp2
    go_ret
    exact ⟨rfl, (by repeat (first | exact Below.refl _ _ | assumption | refine below_drewN ?_ _ | refine Below.drew ?_ | refine Below.alloc ?_ (by first | exact Nat.le_refl _ | exact Below.size (by assumption) | (simp; done) | (simp; omega)) _ | refine Below.setCell ?_ (by first | exact Nat.le_refl _ | exact Below.size (by assumption) | (simp; done) | (simp; omega)) _ | refine Below.trans ?_ (by assumption)))⟩
set_option maxRecDepth 100000 in
set_option maxHeartbeats 8000000 in
theorem iNetVals_cap (m : Int) (a : Option Addr) (n cap : Nat) (G : Nat → Gt) (I : List Bool) (b off l c : Nat) (w : World) (hd : GtsAt w a n G) (hw : WG n G) (hn : n ≤ 1048576) (hl : l ≤ 1048576) (hI : I.length = l) (hb : b < w.heap.size) (hi : Bls w b off l (atB I)) :
    Calls Tryd.prog 10 #[.agg #[.int .i64 m, .slice a n cap], .slice (some ⟨b, off, none⟩) l c] w fun e w' => (∃ a' cap', e = .returned (.slice a' (nvL m n G I).length cap') ∧ BlsAt w' a' (nvL m n G I).length (atB (nvL m n G I)) ∧ (nvL m n G I).length ≤ cap') ∧ Below w.heap.size w w' := by
  have HD := hide hd
  have HW := hide hw
  have HI := hide hi
  clear hd hw hi
  obtain ⟨wz, hwz⟩ : ∃ wz, wz = w.alloc (.cells #[.int .i64 m, .slice a n cap] 25) := ⟨_, rfl⟩
  have BZ : Below w.heap.size w wz := by rw [hwz]; exact (Below.refl _ _).alloc (Nat.le_refl _) _
  have NB : NBox wz w.heap.size m a n cap := by rw [hwz]; exact NBox.new _ _ _ _ _ _
  have HZ := hide hwz
  clear hwz
  go_enter Tryd.func10, Tryd.ntmps10
  go_wp2_with fail
  rw [← unhide HZ]
  refine (iNetOk_any _ _ _ _ _ _ ((unhide HD).later BZ) (unhide HW) hn).mono ?_
  rintro e w1 ⟨rfl, b1⟩
  have NB1 := NB.later b1
  obtain ⟨p0, p1⟩ := NB.later b1
  have B1 := BZ.trans (b1.mono BZ.size)
  clear b1 NB
  cases hP : netB m n G
  · have HN := hide (nvL_no (I := I) (fun h => by rw [hP] at h; exact absurd h.1 (by simp)) : nvL m n G I = [])
    go_wp2
    go_ret
    rw [unhide HN]
    exact ⟨⟨_, _, rfl, Or.inl rfl, Nat.le_refl _⟩, B1⟩
  · by_cases hm : (l : Int) = m
    · subst hm
      obtain ⟨hm0, hm1, hn6, hgs⟩ := netB_iff.1 hP
      have HG := hide hgs
      have HN := hide (nvL_yes hP (by rw [hI]) : nvL (l : Int) n G I = outL I G n)
      have kb : ((l : Int) != (l : Int)) = false := by simp
      have HNB := hide NB1
      have wl : w.heap.size < w1.heap.size := World.block_lt_of_cell? _ _ p0
      clear hgs hP NB1
      go_wp2_with fail
      refine (add_any _ _ (fun _ => 0) 1 _ (WSet.new w1 _) (by unfold W64; omega) (by decide) (by decide)).mono ?_
      rintro e w2 ⟨rfl, hx2, hz2, mv2⟩
      have e1 : (bareI 1).toNat = 1 := by decide
      rw [e1] at hx2
      have HX2 := hide hx2
      have hz2' : w2.heap.size = w1.heap.size + 1 := by rw [hz2]; simp
      have HM2 : Hid (Mov w1.heap.size w1 w2) := (Mov.of ((Below.refl _ _).alloc (Nat.le_refl _) _)).trans mv2
      have BL2 : Below w.heap.size w w2 := B1.trans ((unhide HM2).below B1.size B1.size)
      have HNB2 : Hid (NBox w2 w.heap.size l a n cap) := ⟨(unhide HM2).cell p0 (by simp only; omega), (unhide HM2).cell p1 (by simp only; omega)⟩
      clear hx2 mv2 e1 p0 p1 hz2
      go_wp2
      go_loopw [26] (fun i wr => ∃ (j : Nat) (X : Nat → Nat), j ≤ l ∧ i = .int .i64 j ∧ SoP X (true :: I.take j) ∧ WSet wr w1.heap.size 0 11 X ∧ NBox wr w.heap.size l a n cap ∧ w2.heap.size ≤ wr.heap.size ∧ Below w.heap.size w wr) (fun i _ => l - (intOf i).toNat)
      case atStart => exact ⟨0, _, by omega, rfl, by simpa using SoP.one, unhide HX2, unhide HNB2, Nat.le_refl _, BL2⟩
      case round =>
        obtain ⟨j, X, hj, rfl, hso, hws, hnb, hsz, hbel⟩ := hrel
        have HS := hide hso
        have HX := hide hws
        have HB := hide hnb
        clear hso hws hnb
        by_cases hlt : j < l
        · have d0 := (hbel.cell (p := ⟨b, off + j, none⟩) hb).trans (unhide HI j hlt)
          have hlen : (true :: I.take j).length + 1 = 2 + j := by simp [hI]; omega
          have hnx : true :: I.take (j + 1) = (true :: I.take j) ++ [atB I j] := by
            have hj' : j < I.length := by omega
            rw [List.take_add_one]
            simp [atB, List.getD, hj']
          have HS1 : Hid (SoP (setW X (2 + j) (atB I j)) (true :: I.take (j + 1))) := by
            rw [hnx, ← hlen]; exact (unhide HS).next _
          clear hnx hlen
          cases hv : atB I j
          · rw [hv] at d0
            have HS2 : Hid (SoP X (true :: I.take (j + 1))) := by have h := unhide HS1; rw [hv] at h; exact h
            clear hv
            go_wp2
            go_roundw
            case rel => exact ⟨j + 1, X, by omega, by go_num, unhide HS2, unhide HX, unhide HB, hsz, hbel⟩
            case measure => simp [intOf]; omega
          · rw [hv] at d0
            have HS2 : Hid (SoP (addW X (2 + j)) (true :: I.take (j + 1))) := by have h := unhide HS1; rw [hv] at h; exact h
            clear hv
            have hba : bareI (2 + (j : Int)) = 2 + (j : Int) := bareI_pos (by omega)
            have hbn : (2 + (j : Int)).toNat = 2 + j := by omega
            go_wp2_with fail
            refine (add_any _ _ X _ _ (unhide HX) (by unfold W64; omega) (by rw [hba]; omega) (by rw [hba]; omega)).mono ?_
            rintro e w3 ⟨rfl, hx3, hz3, mv3⟩
            rw [hba, hbn] at hx3
            have HX3 := hide hx3
            have B3 : Below w.heap.size w w3 := hbel.trans (mv3.below (by omega) hbel.size)
            have HB3 : Hid (NBox w3 w.heap.size l a n cap) := ⟨mv3.cell (unhide HB).1 (by simp only; omega), mv3.cell (unhide HB).2 (by simp only; omega)⟩
            clear hx3 mv3
            go_wp2
            go_roundw
            case rel => exact ⟨j + 1, _, by omega, by go_num, unhide HS2, unhide HX3, unhide HB3, by omega, B3⟩
            case measure => simp [intOf]; omega
        · have ej : j = l := by omega
          subst ej
          have HS0 : Hid (SoP X (outL I G 0)) := by have h := unhide HS; rw [List.take_of_length_le (by omega)] at h; exact h
          obtain ⟨p0, p1⟩ := id (unhide HB)
          go_wp2
          go_loopw [39] (fun i wr => ∃ (k : Nat) (X : Nat → Nat), k ≤ n ∧ i = .int .i64 k ∧ SoP X (outL I G k) ∧ WSet wr w1.heap.size 0 11 X ∧ NBox wr w.heap.size j a n cap ∧ w2.heap.size ≤ wr.heap.size ∧ Below w.heap.size w wr) (fun i _ => n - (intOf i).toNat)
          case atStart => exact ⟨0, X, by omega, rfl, unhide HS0, unhide HX, unhide HB, hsz, hbel⟩
          case round =>
            obtain ⟨k, X, hk, rfl, hso, hws, hnb, hsz, hbel⟩ := hrel
            have HS := hide hso
            clear hso
            obtain ⟨p0, p1⟩ := id hnb
            by_cases hlt : k < n
            · obtain ⟨b', off', rfl, hb', hd⟩ := (unhide HD).ok hlt
              obtain ⟨c0, c1, c2⟩ := hd k hlt
              have d0 := (hbel.cell (p := ⟨b', off' + k * 3, none⟩) hb').trans c0
              have d1 := (hbel.cell (p := ⟨b', off' + k * 3 + 1, none⟩) hb').trans c1
              have d2 := (hbel.cell (p := ⟨b', off' + k * 3 + 2, none⟩) hb').trans c2
              clear c0 c1 c2 hd
              obtain ⟨wa, wb⟩ := unhide HW k hlt
              have hg := (unhide HG k hlt).1
              have hlen : (outL I G k).length = 1 + j + k := by rw [outL_len, hI]
              have hgm : GmP ((outL I G k).length + 1) (G k) := by
                have e : (((outL I G k).length : Int) + 1) = 2 + (j : Int) + (k : Int) := by rw [hlen]; omega
                rw [e]; exact hg
              have hgs : gsay X (G k).x (G k).a (G k).b = gval (G k) (outL I G k) := (unhide HS).gate hgm (by rw [hlen]; omega)
              have HS1 : Hid (SoP (setW X (2 + j + k) (gsay X (G k).x (G k).a (G k).b)) (outL I G (k + 1))) := by
                rw [hgs]
                have h := (unhide HS).next (gval (G k) (outL I G k))
                rw [hlen] at h
                have e : 1 + j + k + 1 = 2 + j + k := by omega
                rw [e] at h
                exact h
              have ha := absI_bd (G k).a (2 + j + k) (by have := hg.bd; omega) (by have := hg.bd; omega)
              have hbb := absI_bd (G k).b (2 + j + k) (by have := hg.bd; omega) (by have := hg.bd; omega)
              have ea : bareI (G k).a = absI (G k).a := bare_abs (N := 2 + j + k) (by have := hg.bd; omega) (by have := hg.bd; omega) (by omega)
              have eb : bareI (G k).b = absI (G k).b := bare_abs (N := 2 + j + k) (by have := hg.bd; omega) (by have := hg.bd; omega) (by omega)
              rw [← ea] at ha
              rw [← eb] at hbb
              have a1 : bareI (G k).a ≤ 700 := by omega
              have b1 : bareI (G k).b ≤ 700 := by omega
              have a0 := ha.1
              have b0 := hbb.1
              clear hgs ea eb ha hbb hg hlen hgm
              have wr1 : w.heap.size < wr.heap.size := by omega
              have wr2 : w1.heap.size < wr.heap.size := by omega
              have WS := hws
              have BL := hbel
              have sz := hsz
              clear hws
              go_wp2
              obtain ⟨wy, hwy⟩ : ∃ wy, wy = wr.alloc (.cells #[.bool (G k).x, .int .i64 (G k).a, .int .i64 (G k).b] 76) := ⟨_, rfl⟩
              have bY : Below wr.heap.size wr wy := by rw [hwy]; exact (Below.refl _ _).alloc (Nat.le_refl _) _
              have q0 : wy.cell? ⟨wr.heap.size, 0, none⟩ = some (.bool (G k).x) := by rw [hwy]; simp [go_sem]
              have q1 : wy.cell? ⟨wr.heap.size, 1, none⟩ = some (.int .i64 (G k).a) := by rw [hwy]; simp [go_sem]
              have q2 : wy.cell? ⟨wr.heap.size, 2, none⟩ = some (.int .i64 (G k).b) := by rw [hwy]; simp [go_sem]
              rw [← hwy]
              clear hwy
              replace p0 := cell_later bY p0
              replace p1 := cell_later bY p1
              replace WS := WS.later bY
              replace BL := BL.trans (bY.mono BL.size)
              replace sz := Nat.le_trans sz bY.size
              clear bY d0 d1 d2
              have hwr : IntKind.i64.wrap (2 + (j : Int) + (k : Int)) = ((2 + j + k : Nat) : Int) := by rw [IntKind.wrap_i64]; omega
              go_region_held3 (fun w' => w'.cell? ⟨w.heap.size, 0, none⟩ = some (.int .i64 (j : Int)) ∧ w'.cell? ⟨w.heap.size, 1, none⟩ = some (.slice (some ⟨b', off', none⟩) n cap) ∧ w'.cell? ⟨wr.heap.size, 0, none⟩ = some (.bool (G k).x) ∧ w'.cell? ⟨wr.heap.size, 1, none⟩ = some (.int .i64 (G k).a) ∧ w'.cell? ⟨wr.heap.size, 2, none⟩ = some (.int .i64 (G k).b)) (first | go_keep | exact ⟨p0, p1, q0, q1, q2⟩)
                (first | (go_at_call 44; refine (firstGate_any _ _ _ _ _ hm0 hm1).mono ?_; rintro e wq ⟨rfl, bq⟩; have BL := (by first | exact BL.trans (bq.mono BL.size) | exact BL.drew.trans (bq.mono BL.size)); have sz := Nat.le_trans (by exact sz) bq.size; have WS := WSet.later (by first | exact WS | exact WS.drewN 1 | exact WS.drewN 2) bq; have p0 := cell_later bq (by exact p0); have p1 := cell_later bq (by exact p1); have q0 := cell_later bq (by exact q0); have q1 := cell_later bq (by exact q1); have q2 := cell_later bq (by exact q2)) | (go_at_call 43; (try rw [hwr]); refine (reckon_any w1.heap.size 0 X (2 + j + k) _ _ _ _ (by first | exact WS | exact WS.drewN 1 | exact WS.drewN 2) (by omega) wa wb a0 a1 b0 b1).mono ?_; rintro e wp ⟨rfl, WT, mp⟩; have BL := (by first | exact BL.trans (mp.below (by omega) BL.size) | exact BL.drew.trans (mp.below (by omega) BL.size)); have sz := Nat.le_trans (by exact sz) mp.size; have p0 := mp.cell (by exact p0) (by simp only; omega); have p1 := mp.cell (by exact p1) (by simp only; omega); have q0 := mp.cell (by exact q0) (by simp only; omega); have q1 := mp.cell (by exact q1) (by simp only; omega); have q2 := mp.cell (by exact q2) (by simp only; omega)))
              all_goals go_wp2
              all_goals go_roundw
              all_goals first | exact ⟨k + 1, _, by omega, by go_num, unhide HS1, (by first | exact WT | exact WT.drewN 1), ⟨p0, p1⟩, sz, (by first | exact BL | exact BL.drew)⟩ | (simp [intOf]; omega)
            · have ek : k = n := by omega
              subst ek
              have hlen : (outL I G k).length = 1 + j + k := by rw [outL_len, hI]
              have hN := unhide HN
              obtain ⟨L, hL⟩ : ∃ L, L = outL I G k := ⟨_, rfl⟩
              rw [← hL] at hlen hN
              have HNL := hide hN
              have HSL : Hid (SoP X L) := by rw [hL]; exact unhide HS
              obtain ⟨N, hNe⟩ : ∃ N, N = 1 + j + k := ⟨_, rfl⟩
              rw [← hNe] at hlen
              have hcast : (1 + (j : Int) + (k : Int)) = (N : Int) := by omega
              have hN7 : N ≤ 700 := by omega
              have hmk := run_make_wide (P := Tryd.prog) 32 4 _ 1 1 Tryd.underlying32 infoBoo .i64 .i64 N (by omega) (by omega)
              simp only [Nat.mul_one] at hmk
              have HLEN := hide hlen
              have wr2 : w1.heap.size < wr.heap.size := by omega
              clear hL hN hlen hNe HS HN
              go_wp2_with fail
              refine (netMany_any _ _ _ _ _ hm0 hm1 (by omega)).mono ?_
              rintro e w5 ⟨rfl, b5⟩
              rw [hcast]
              have HX5 := hide (hws.later b5)
              have B5 := hbel.trans (b5.mono hbel.size)
              have wr5 := Nat.lt_of_lt_of_le wr2 b5.size
              have ws5 := B5.size
              clear b5 hws hcast p0 p1
              go_wp2
              go_loopw [56] (fun i wq => ∃ t : Nat, t ≤ N ∧ i = .int .i64 t ∧ Bls wq w5.heap.size 0 t (atB L) ∧ Made wq w5.heap.size N ∧ WSet wq w1.heap.size 0 11 X ∧ Below w.heap.size w wq) (fun i _ => N - (intOf i).toNat)
              case atStart =>
                have b6 : Below w5.heap.size w5 (w5.alloc (.cells (madeCells (Value.bool false).cells N) 4)) := (Below.refl _ _).alloc (Nat.le_refl _) _
                exact ⟨0, by omega, rfl, fun i hi => by omega, Made.new _ _ _ _, (unhide HX5).later b6, B5.trans (b6.mono B5.size)⟩
              case round =>
                obtain ⟨t, ht, rfl, hbt, hmt, hxt, hbelt⟩ := hrel
                have HBt := hide hbt
                have HMt := hide hmt
                have HXt := hide hxt
                clear hbt hmt hxt
                by_cases hlt2 : t < N
                · have hba : bareI ((t : Int) + 1) = (t : Int) + 1 := bareI_pos (by omega)
                  have hv : inW X ((t : Int) + 1).toNat = atB L t := by
                    have e : ((t : Int) + 1).toNat = t + 1 := by omega
                    rw [e, unhide HSL]; simp
                  have lt5 := (unhide HMt).1
                  go_wp2_with fail
                  refine (has_any _ _ X _ _ (unhide HXt).1 (by unfold W64; omega) (by rw [hba]; omega) (by rw [hba]; omega)).mono ?_
                  rintro e w6 ⟨rfl, nn, rfl⟩
                  rw [hba, hv]
                  obtain ⟨⟨u0, q0⟩, f0⟩ := (unhide HMt).2 t (by omega)
                  have q0' : (wr.drewN nn).cell? ⟨w5.heap.size, t, none⟩ = some u0 := q0
                  have f0' : (wr.drewN nn).frozen? ⟨w5.heap.size, t, none⟩ = false := f0
                  have HP := hide (Bls.put (w := wr.drewN nn) (unhide HBt) q0')
                  have HM6 := hide (Made.set (w := wr.drewN nn) (unhide HMt) ⟨w5.heap.size, t, none⟩ (.bool (atB L t)))
                  have HX6 : Hid (WSet ((wr.drewN nn).setCell ⟨w5.heap.size, t, none⟩ (.bool (atB L t))) w1.heap.size 0 11 X) := WSet.mov (w := wr.drewN nn) ((unhide HXt).drewN nn) (Mov.set _ _ _) (by omega)
                  clear q0 f0 hv
                  go_wp2
                  go_roundw
                  case rel => exact ⟨t + 1, by omega, by go_num, unhide HP, unhide HM6, unhide HX6, (below_drewN hbelt nn).setCell (by simp only; omega) _⟩
                  case measure => simp [intOf]; omega
                · have et : t = N := by omega
                  subst et
                  go_wp2
                  go_ret
                  rw [unhide HNL]
                  refine ⟨⟨some ⟨w5.heap.size, 0, none⟩, t, by rw [unhide HLEN]; rfl, ?_, ?_⟩, hbelt⟩
                  · rw [unhide HLEN]; exact (unhide HBt).at (unhide HMt).1
                  · rw [unhide HLEN]; exact Nat.le_refl _
    · have HN := hide (nvL_no (I := I) (fun h => hm (by rw [← hI]; exact h.2)) : nvL m n G I = [])
      have kb : ((l : Int) != m) = true := by simp [hm]
      go_wp2
      go_ret
      rw [unhide HN]
      exact ⟨⟨_, _, rfl, Or.inl rfl, Nat.le_refl _⟩, B1⟩
theorem atB_left {L M : List Bool} {i : Nat} (h : i < L.length) : atB (L ++ M) i = atB L i := by
  unfold atB
  rw [List.getD_eq_getElem?_getD, List.getD_eq_getElem?_getD, List.getElem?_append_left h]
theorem outL_pre {I : List Bool} {G : Nat → Gt} {j i : Nat} (hi : i < 1 + I.length + j) : ∀ {n}, j ≤ n → atB (outL I G n) i = atB (outL I G j) i
  | 0, h => by have : j = 0 := by omega
               subst this; rfl
  | n + 1, h => by
    by_cases e : j = n + 1
    · subst e; rfl
    · rw [← outL_pre hi (show j ≤ n by omega), outL, atB_left (by rw [outL_len]; omega)]
theorem outL_top {I : List Bool} {G : Nat → Gt} {n : Nat} : atB (outL I G n) 0 = true := by rw [outL_pre (j := 0) (by omega) (Nat.zero_le _)]; rfl
theorem outL_ins {I : List Bool} {G : Nat → Gt} {n i : Nat} (h : i < I.length) : atB (outL I G n) (1 + i) = atB I i := by
  rw [outL_pre (j := 0) (by omega) (Nat.zero_le _), Nat.add_comm]
  rfl
theorem outL_at {I : List Bool} {G : Nat → Gt} {n i : Nat} (h : i < n) : atB (outL I G n) (1 + I.length + i) = gval (G i) (outL I G i) := by
  rw [outL_pre (j := i + 1) (by omega) (by omega), outL]
  unfold atB
  rw [List.getD_eq_getElem?_getD, List.getElem?_append_right (by rw [outL_len]; exact Nat.le_refl _), outL_len]
  simp
theorem met_pre {m : Int} {l l' : Nat} {B B' : Nat → Bool} (h : ∀ i, i < l → B i = B' i) (hl : l ≤ l') (ha : 1 ≤ absI m) (hb : absI m ≤ l) : metB m l B = metB m l' B' := by
  rcases met_ways l m with ⟨j, hj, rfl⟩ | ⟨j, hj, rfl⟩ | ho
  · rw [met_pos hj, met_pos (by omega), h j hj]
  · rw [met_neg hj, met_neg (by omega), h j hj]
  · unfold absI at ha hb
    split at ha <;> split at hb <;> omega
theorem outL_gate {I : List Bool} {G : Nat → Gt} {m : Int} {n i : Nat} (hm : (I.length : Int) = m) (h : i < n) (hg : GmP (2 + m + i) (G i)) :
    atB (outL I G n) (1 + I.length + i) = if (G i).x then metB (G i).a (1 + I.length + n) (atB (outL I G n)) != metB (G i).b (1 + I.length + n) (atB (outL I G n)) else metB (G i).a (1 + I.length + n) (atB (outL I G n)) && metB (G i).b (1 + I.length + n) (atB (outL I G n)) := by
  rw [outL_at h]
  unfold gval
  obtain ⟨h1, h2, h3, _⟩ := hg
  have e : ∀ k, k < (outL I G i).length → atB (outL I G i) k = atB (outL I G n) k := fun k hk => by
    rw [outL_len] at hk
    exact (outL_pre hk (by omega)).symm
  have hl : (outL I G i).length ≤ 1 + I.length + n := by rw [outL_len]; omega
  rw [met_pre (m := (G i).a) e hl (by omega) (by rw [outL_len]; omega), met_pre (m := (G i).b) e hl (by omega) (by rw [outL_len]; omega)]
theorem outL_ext {I : List Bool} {G G' : Nat → Gt} {n : Nat} (h : ∀ i, i < n → G' i = G i) : ∀ j, j ≤ n → outL I G' j = outL I G j
  | 0, _ => rfl
  | j + 1, hj => by rw [outL, outL, outL_ext h j (by omega), h j (by omega)]
theorem outL_both {I : List Bool} {G G' : Nat → Gt} {n n' i : Nat} (h : ∀ i, i < n → G' i = G i) (hn : n ≤ n') (hi : i < 1 + I.length + n) : atB (outL I G' n') i = atB (outL I G n) i := by
  rw [outL_pre hi hn, outL_ext h n (Nat.le_refl _)]
/-- What a mark must say. -/
def SayP (m : Int) (n : Nat) (G : Nat → Gt) (a b mk : Int) (x : Bool) : Prop := ∀ I : List Bool, (I.length : Int) = m → metB mk (1 + I.length + n) (atB (outL I G n)) = if x = true then metB a (1 + I.length + n) (atB (outL I G n)) != metB b (1 + I.length + n) (atB (outL I G n)) else metB a (1 + I.length + n) (atB (outL I G n)) && metB b (1 + I.length + n) (atB (outL I G n))
theorem putR_loc {m : Int} {n : Nat} {G : Nat → Gt} {g : Gt} (hm : 0 ≤ m) (hk : (putR m n G g).k ≠ 0) :
    ∃ i, i < (putR m n G g).n ∧ (putR m n G g).G i = g ∧ (putR m n G g).k = 2 + m + i ∧ (∀ j, j < i → (putR m n G g).G j ≠ g) ∧ (putR m n G g).n ≤ n + 1 ∧ n ≤ (putR m n G g).n ∧ (∀ j, j < n → (putR m n G g).G j = G j) ∧ (putR m n G g).m = m := by
  rcases firstO_ways (fun i => geq (G i) g) n with ⟨_, hno⟩ | ⟨i, hi, _, hgi, hj⟩
  · by_cases h6 : 600 ≤ n
    · rw [putR_full (fun j hj => geq_no.1 (hno j hj)) h6] at hk; exact absurd rfl hk
    · rw [putR_new (fun j hj => geq_no.1 (hno j hj)) (by omega)]
      exact ⟨n, by simp, snocG_at _ _ _, rfl, fun j hj => by simp only [snocG_lt hj]; exact geq_no.1 (hno j hj), Nat.le_refl _, by simp, fun j hj => snocG_lt hj, rfl⟩
  · rw [putR_at hi (geq_iff.1 hgi) (fun j h => geq_no.1 (hj j h))]
    exact ⟨i, hi, geq_iff.1 hgi, rfl, fun j h => geq_no.1 (hj j h), by simp, Nat.le_refl _, fun _ _ => rfl, rfl⟩
theorem putR_again {m : Int} {n : Nat} {G : Nat → Gt} {g : Gt} (hm : 0 ≤ m) (hk : (putR m n G g).k ≠ 0) :
    putR (putR m n G g).m (putR m n G g).n (putR m n G g).G g = putR m n G g := by
  obtain ⟨i, h1, h2, h3, h4, _, _, _, h8⟩ := putR_loc hm hk
  generalize putR m n G g = r at *
  obtain ⟨rm, rn, rG, rk⟩ := r
  simp only at *
  rw [putR_at h1 h2 h4, h3, h8]
theorem met_one {l : Nat} {V : Nat → Bool} (h0 : V 0 = true) (hl : 0 < l) : metB 1 l V = true := by
  have := met_pos (n := l) (B := V) (j := 0) hl
  simpa [h0] using this
theorem met_not {l : Nat} {V : Nat → Bool} (h0 : V 0 = true) (hl : 0 < l) : metB (-1) l V = false := by
  have := met_neg (n := l) (B := V) (j := 0) hl
  simpa [h0] using this
theorem met_turn {m : Int} {n l : Nat} {V : Nat → Bool} {a : Int} (ha : mkP m n a = true) (hl : (l : Int) = 1 + m + n) : metB (-a) l V = !metB a l V := by
  rw [mkP_iff] at ha
  rcases met_ways l a with ⟨j, hj, rfl⟩ | ⟨j, hj, rfl⟩ | ho
  · rw [met_pos hj, met_neg hj]
  · rw [met_neg hj]
    have e : -(-((j : Int) + 1)) = (j : Int) + 1 := by omega
    rw [e, met_pos hj]; simp
  · omega
/-- The mark of a gate says the gate. -/
theorem put_says {m : Int} {n : Nat} {G : Nat → Gt} {g : Gt} {I : List Bool} (hI : (I.length : Int) = m) (hk : (putR m n G g).k ≠ 0) (hnet : netB (putR m n G g).m (putR m n G g).n (putR m n G g).G = true) :
    metB (putR m n G g).k (1 + I.length + (putR m n G g).n) (atB (outL I (putR m n G g).G (putR m n G g).n)) = if g.x then metB g.a (1 + I.length + (putR m n G g).n) (atB (outL I (putR m n G g).G (putR m n G g).n)) != metB g.b (1 + I.length + (putR m n G g).n) (atB (outL I (putR m n G g).G (putR m n G g).n)) else metB g.a (1 + I.length + (putR m n G g).n) (atB (outL I (putR m n G g).G (putR m n G g).n)) && metB g.b (1 + I.length + (putR m n G g).n) (atB (outL I (putR m n G g).G (putR m n G g).n)) := by
  obtain ⟨i, h1, h2, h3, _, _, _, _, h8⟩ := putR_loc (by omega) hk
  obtain ⟨_, _, _, hgs⟩ := netB_iff.1 hnet
  have hg := (hgs i h1).1
  generalize putR m n G g = r at *
  have h := outL_gate (I := I) (G := r.G) (n := r.n) (m := r.m) (i := i) (by omega) h1 hg
  rw [h2] at h
  rw [← h, h3]
  have e : 2 + m + (i : Int) = ((1 + I.length + i : Nat) : Int) + 1 := by omega
  rw [e, met_pos (by omega)]
theorem andR_ext {m : Int} {n : Nat} {G : Nat → Gt} {a b : Int} (hm : 0 ≤ m) (hk : (andR m n G a b).k ≠ 0) : (andR m n G a b).n ≤ n + 1 ∧ ∀ j, j < n → (andR m n G a b).G j = G j := by
  revert hk
  unfold andR
  repeat' split
  all_goals intro hk
  all_goals first | exact ⟨Nat.le_succ _, fun _ _ => rfl⟩ | (obtain ⟨_, _, _, _, _, h5, _, h7, _⟩ := putR_loc hm hk; exact ⟨h5, h7⟩)
theorem andR_again {m : Int} {n : Nat} {G : Nat → Gt} {a b : Int} (hm : 0 ≤ m) (ha : a ≠ 0) (hb : b ≠ 0) (hk : (andR m n G a b).k ≠ 0) :
    andR (andR m n G a b).m (andR m n G a b).n (andR m n G a b).G b a = andR m n G a b := by
  by_cases c1 : a = -1 ∨ b = -1
  · have e : andR m n G a b = ⟨m, n, G, -1⟩ := by unfold andR; rw [if_pos c1]
    rw [e]
    unfold andR; rw [if_pos (Or.symm c1)]
  · by_cases c2 : a = 1
    · have e : andR m n G a b = ⟨m, n, G, b⟩ := by unfold andR; rw [if_neg c1, if_pos c2]
      rw [e]
      subst c2
      unfold andR
      rw [if_neg (fun h => c1 (Or.symm h))]
      by_cases c3 : b = 1
      · rw [if_pos c3, c3]
      · rw [if_neg c3, if_pos (Or.inl rfl)]
    · by_cases c3 : b = 1 ∨ a = b
      · have e : andR m n G a b = ⟨m, n, G, a⟩ := by unfold andR; rw [if_neg c1, if_neg c2, if_pos c3]
        rw [e]
        unfold andR
        rw [if_neg (fun h => c1 (Or.symm h))]
        by_cases c4 : b = 1
        · rw [if_pos c4]
        · have c5 : a = b := c3.resolve_left c4
          rw [if_neg c4, if_pos (Or.inr c5.symm), c5]
      · by_cases c4 : a = -b
        · have e : andR m n G a b = ⟨m, n, G, -1⟩ := by unfold andR; rw [if_neg c1, if_neg c2, if_neg c3, if_pos c4]
          rw [e]
          unfold andR
          rw [if_neg (fun h => c1 (Or.symm h)), if_neg (fun h => c3 (Or.inl h)), if_neg (by omega), if_pos (by omega)]
        · have hne := absI_ne (a := a) (b := b) (fun e => c3 (Or.inr e)) c4
          by_cases c5 : absI b < absI a
          · have e : andR m n G a b = putR m n G ⟨false, b, a⟩ := by unfold andR; rw [if_neg c1, if_neg c2, if_neg c3, if_neg c4, if_pos c5]
            rw [e] at hk ⊢
            have e2 : andR (putR m n G ⟨false, b, a⟩).m (putR m n G ⟨false, b, a⟩).n (putR m n G ⟨false, b, a⟩).G b a = putR (putR m n G ⟨false, b, a⟩).m (putR m n G ⟨false, b, a⟩).n (putR m n G ⟨false, b, a⟩).G ⟨false, b, a⟩ := by
              unfold andR; rw [if_neg (fun h => c1 (Or.symm h)), if_neg (fun h => c3 (Or.inl h)), if_neg (by omega), if_neg (by omega), if_neg (by omega)]
            rw [e2, putR_again hm hk]
          · have e : andR m n G a b = putR m n G ⟨false, a, b⟩ := by unfold andR; rw [if_neg c1, if_neg c2, if_neg c3, if_neg c4, if_neg c5]
            rw [e] at hk ⊢
            have e2 : andR (putR m n G ⟨false, a, b⟩).m (putR m n G ⟨false, a, b⟩).n (putR m n G ⟨false, a, b⟩).G b a = putR (putR m n G ⟨false, a, b⟩).m (putR m n G ⟨false, a, b⟩).n (putR m n G ⟨false, a, b⟩).G ⟨false, a, b⟩ := by
              unfold andR; rw [if_neg (fun h => c1 (Or.symm h)), if_neg (fun h => c3 (Or.inl h)), if_neg (by omega), if_neg (by omega), if_pos (by omega)]
            rw [e2, putR_again hm hk]
theorem andR_says {m : Int} {n : Nat} {G : Nat → Gt} {a b : Int} (hnet : netB m n G = true) (ha : mkP m n a = true) (hb : mkP m n b = true) (hk : (andR m n G a b).k ≠ 0) :
    SayP m (andR m n G a b).n (andR m n G a b).G a b (andR m n G a b).k false := by
  intro I hI
  obtain ⟨q1, q2, q3, q4⟩ := andR_net hnet ha hb hk
  rw [if_neg (by simp)]
  have t0 : ∀ k H, atB (outL I H k) 0 = true := fun k H => outL_top
  have ln : ∀ k, 0 < 1 + I.length + k := fun k => by omega
  revert hk q1
  unfold andR
  by_cases c1 : a = -1 ∨ b = -1
  · rw [if_pos c1]
    intro _ _
    simp only
    rw [met_not (t0 _ _) (ln _)]
    rcases c1 with rfl | rfl
    · rw [met_not (t0 _ _) (ln _)]; simp
    · rw [met_not (t0 _ _) (ln _)]; simp
  · rw [if_neg c1]
    by_cases c2 : a = 1
    · rw [if_pos c2]
      intro _ _
      subst c2
      simp only
      rw [met_one (t0 _ _) (ln _)]; simp
    · rw [if_neg c2]
      by_cases c3 : b = 1 ∨ a = b
      · rw [if_pos c3]
        intro _ _
        simp only
        rcases c3 with rfl | rfl
        · rw [met_one (t0 _ _) (ln _)]; simp
        · simp
      · rw [if_neg c3]
        by_cases c4 : a = -b
        · rw [if_pos c4]
          intro _ _
          simp only
          rw [met_not (t0 _ _) (ln _), c4, met_turn hb (by omega)]
          simp
        · rw [if_neg c4]
          by_cases c5 : absI b < absI a
          · rw [if_pos c5]
            intro hk q1
            rw [put_says hI hk q1, Bool.and_comm]
            rfl
          · rw [if_neg c5]
            intro hk q1
            rw [put_says hI hk q1]
            rfl
theorem nsB_refl (m : Int) (n : Nat) (G : Nat → Gt) : nsB m m n n G G = true := by
  unfold nsB
  rw [geB_yes ⟨rfl, fun _ _ => rfl⟩]
  simp
theorem wg_net {m : Int} {n : Nat} {G : Nat → Gt} (h : netB m n G = true) : WG n G := fun i hi => by
  obtain ⟨h0, h1, h2, h3⟩ := netB_iff.1 h
  obtain ⟨q1, q2, q3, _⟩ := (h3 i hi).1
  have ha : absI (G i).a < 700 := by omega
  have hb : absI (G i).b < 700 := by omega
  rw [absI_lt] at ha hb
  exact ⟨by unfold W64; omega, by unfold W64; omega⟩
theorem mkP_more {m : Int} {n n' : Nat} {a : Int} (h : mkP m n a = true) (hn : n ≤ n') : mkP m n' a = true := by
  rw [mkP_iff] at h ⊢
  omega
theorem netAnd_in {m : Int} {n : Nat} {G : Nat → Gt} {a b : Int} (h : (netAndR m n G a b).k ≠ 0) : inB m n G a b := by
  by_cases hi : inB m n G a b
  · exact hi
  · rw [netAndR_no hi] at h; exact absurd rfl h
theorem putR_none {m : Int} {n : Nat} {G : Nat → Gt} {g : Gt} (hm : 0 ≤ m) (hk : (putR m n G g).k = 0) : (putR m n G g).m = 0 ∧ (putR m n G g).n = 0 := by
  rcases firstO_ways (fun i => geq (G i) g) n with ⟨_, hno⟩ | ⟨i, hi, _, hgi, hj⟩
  · by_cases h6 : 600 ≤ n
    · rw [putR_full (fun j hj => geq_no.1 (hno j hj)) h6]; exact ⟨rfl, rfl⟩
    · rw [putR_new (fun j hj => geq_no.1 (hno j hj)) (by omega)] at hk; simp only at hk; omega
  · rw [putR_at hi (geq_iff.1 hgi) (fun j h => geq_no.1 (hj j h))] at hk; simp only at hk; omega
theorem netAnd_zero {m : Int} {n : Nat} {G : Nat → Gt} {a b : Int} (h : (netAndR m n G a b).k = 0) : (netAndR m n G a b).m = 0 ∧ (netAndR m n G a b).n = 0 := by
  by_cases hi : inB m n G a b
  · rw [netAndR_yes hi] at h ⊢
    have hm := (netB_iff.1 hi.1).1
    have ha := (mkP_iff.1 hi.2.1).1
    have hb := (mkP_iff.1 hi.2.2).1
    revert h
    unfold andR
    repeat' split
    all_goals intro h
    all_goals first | exact putR_none hm h | (simp only at h; omega)
  · rw [netAndR_no hi]; exact ⟨rfl, rfl⟩
/-- All that the laws ask of a net that And made. -/
theorem netAnd_facts {m : Int} {n : Nat} {G : Nat → Gt} {a b : Int} (h : (netAndR m n G a b).k ≠ 0) :
    ∃ M : Nat, m = (M : Int) ∧ netB (M : Int) n G = true ∧ (netAndR m n G a b).m = (M : Int) ∧ netB (M : Int) (netAndR m n G a b).n (netAndR m n G a b).G = true ∧ n ≤ (netAndR m n G a b).n ∧ (netAndR m n G a b).n ≤ n + 1 ∧ (∀ i, i < n → (netAndR m n G a b).G i = G i) ∧ SayP (M : Int) (netAndR m n G a b).n (netAndR m n G a b).G a b (netAndR m n G a b).k false ∧ (-700 ≤ (netAndR m n G a b).k ∧ (netAndR m n G a b).k ≤ 700) ∧ netAndR (netAndR m n G a b).m (netAndR m n G a b).n (netAndR m n G a b).G b a = netAndR m n G a b := by
  obtain ⟨i1, i2, i3⟩ := netAnd_in h
  obtain ⟨m0, m8, n6, _⟩ := netB_iff.1 i1
  obtain ⟨M, rfl⟩ := Int.eq_ofNat_of_zero_le m0
  have e := netAndR_yes (m := (M : Int)) (n := n) (G := G) (a := a) (b := b) ⟨i1, i2, i3⟩
  rw [e] at h ⊢
  obtain ⟨q1, q2, q3, q4⟩ := andR_net i1 i2 i3 h
  obtain ⟨x1, x2⟩ := andR_ext m0 h
  have q1' := q1
  rw [q2] at q1'
  have hin : inB (andR (M : Int) n G a b).m (andR (M : Int) n G a b).n (andR (M : Int) n G a b).G b a := ⟨q1, by rw [q2]; exact mkP_more i3 q3, by rw [q2]; exact mkP_more i2 q3⟩
  have q5 := mkP_iff.1 q4
  have q6 := (netB_iff.1 q1').2.2.1
  exact ⟨M, rfl, i1, q2, q1', q3, x1, x2, andR_says i1 i2 i3 h, by omega, by rw [netAndR_yes hin]; exact andR_again m0 (mkP_iff.1 i2).1 (mkP_iff.1 i3).1 h⟩
/-- The gate of two that are unlike, and its sign. -/
def xGate (a b : Int) : Gt := if absI b < absI a then ⟨true, absI b, absI a⟩ else ⟨true, absI a, absI b⟩
def xSign (a b : Int) : Bool := decide (a < 0) != decide (b < 0)
theorem xorR_one {m : Int} {n : Nat} {G : Nat → Gt} {a b : Int} (h : absI a = 1) : xorR m n G a b = ⟨m, n, G, if a = 1 then -b else b⟩ := by unfold xorR; rw [if_pos h]
theorem xorR_two {m : Int} {n : Nat} {G : Nat → Gt} {a b : Int} (h : ¬ absI a = 1) (h2 : absI b = 1) : xorR m n G a b = ⟨m, n, G, if b = 1 then -a else a⟩ := by unfold xorR; rw [if_neg h, if_pos h2]
theorem xorR_eq {m : Int} {n : Nat} {G : Nat → Gt} {a b : Int} (h : ¬ absI a = 1) (h2 : ¬ absI b = 1) (h3 : a = b) : xorR m n G a b = ⟨m, n, G, -1⟩ := by unfold xorR; rw [if_neg h, if_neg h2, if_pos h3]
theorem xorR_un {m : Int} {n : Nat} {G : Nat → Gt} {a b : Int} (h : ¬ absI a = 1) (h2 : ¬ absI b = 1) (h3 : ¬ a = b) (h4 : a = -b) : xorR m n G a b = ⟨m, n, G, 1⟩ := by unfold xorR; rw [if_neg h, if_neg h2, if_neg h3, if_pos h4]
theorem xorR_put {m : Int} {n : Nat} {G : Nat → Gt} {a b : Int} (h : ¬ absI a = 1) (h2 : ¬ absI b = 1) (h3 : ¬ a = b) (h4 : ¬ a = -b) : xorR m n G a b = turnR (putR m n G (xGate a b)) (xSign a b) := by unfold xorR; rw [if_neg h, if_neg h2, if_neg h3, if_neg h4]; rfl
theorem xGate_swap {a b : Int} (h3 : ¬ a = b) (h4 : ¬ a = -b) : xGate b a = xGate a b := by
  have := absI_ne h3 h4
  unfold xGate
  by_cases c : absI b < absI a
  · rw [if_pos c, if_neg (by omega)]
  · rw [if_neg c, if_pos (by omega)]
theorem xSign_swap {a b : Int} : xSign b a = xSign a b := by unfold xSign; cases decide (a < 0) <;> cases decide (b < 0) <;> rfl
theorem absI_neg_eq {a : Int} : absI (-a) = absI a := by unfold absI; split <;> split <;> omega
theorem xGate_neg {a b : Int} : xGate (-a) b = xGate a b := by unfold xGate; rw [absI_neg_eq]
theorem xSign_neg {a b : Int} (ha : a ≠ 0) : xSign (-a) b = !xSign a b := by
  unfold xSign
  by_cases h : a < 0
  · have h2 : ¬ -a < 0 := by omega
    rw [decide_eq_true h, decide_eq_false h2]
    cases decide (b < 0) <;> rfl
  · have h2 : -a < 0 := by omega
    rw [decide_eq_false h, decide_eq_true h2]
    cases decide (b < 0) <;> rfl
theorem turn_again {m : Int} {n : Nat} {G : Nat → Gt} {g : Gt} {t t' : Bool} (hm : 0 ≤ m) (hk : (putR m n G g).k ≠ 0) : turnR (putR (turnR (putR m n G g) t).m (turnR (putR m n G g) t).n (turnR (putR m n G g) t).G g) t' = turnR (putR m n G g) t' := by
  show turnR (putR (putR m n G g).m (putR m n G g).n (putR m n G g).G g) t' = _
  rw [putR_again hm hk]
theorem turn_k {r : NR} {t : Bool} (h : (turnR r t).k ≠ 0) : r.k ≠ 0 := fun e => h (by unfold turnR; simp only [e]; split <;> rfl)
theorem xorR_ext {m : Int} {n : Nat} {G : Nat → Gt} {a b : Int} (hm : 0 ≤ m) (hk : (xorR m n G a b).k ≠ 0) : (xorR m n G a b).n ≤ n + 1 ∧ ∀ j, j < n → (xorR m n G a b).G j = G j := by
  by_cases c1 : absI a = 1
  · rw [xorR_one c1]; exact ⟨Nat.le_succ _, fun _ _ => rfl⟩
  · by_cases c2 : absI b = 1
    · rw [xorR_two c1 c2]; exact ⟨Nat.le_succ _, fun _ _ => rfl⟩
    · by_cases c3 : a = b
      · rw [xorR_eq c1 c2 c3]; exact ⟨Nat.le_succ _, fun _ _ => rfl⟩
      · by_cases c4 : a = -b
        · rw [xorR_un c1 c2 c3 c4]; exact ⟨Nat.le_succ _, fun _ _ => rfl⟩
        · rw [xorR_put c1 c2 c3 c4] at hk ⊢
          obtain ⟨_, _, _, _, _, h5, _, h7, _⟩ := putR_loc hm (turn_k hk)
          exact ⟨h5, h7⟩
theorem xorR_again {m : Int} {n : Nat} {G : Nat → Gt} {a b : Int} (hm : 0 ≤ m) (ha : a ≠ 0) (hb : b ≠ 0) (hk : (xorR m n G a b).k ≠ 0) :
    xorR (xorR m n G a b).m (xorR m n G a b).n (xorR m n G a b).G b a = xorR m n G a b ∧ xorR (xorR m n G a b).m (xorR m n G a b).n (xorR m n G a b).G (-a) b = turnR (xorR m n G a b) true := by
  by_cases c1 : absI a = 1
  · have d1 : absI (-a) = 1 := by rw [absI_neg_eq]; exact c1
    rw [xorR_one c1]
    refine ⟨?_, ?_⟩
    · by_cases c2 : absI b = 1
      · rw [xorR_one c2]
        rw [abs_one] at c1 c2
        rcases c1 with rfl | rfl <;> rcases c2 with rfl | rfl <;> rfl
      · rw [xorR_two c2 c1]
    · rw [xorR_one d1]
      unfold turnR
      rw [abs_one] at c1
      rcases c1 with rfl | rfl
      · simp
      · simp
  · have d1 : ¬ absI (-a) = 1 := by rw [absI_neg_eq]; exact c1
    by_cases c2 : absI b = 1
    · rw [xorR_two c1 c2]
      refine ⟨by rw [xorR_one c2], ?_⟩
      rw [xorR_two d1 c2]
      unfold turnR
      rw [abs_one] at c2
      rcases c2 with rfl | rfl
      · simp
      · simp
    · by_cases c3 : a = b
      · rw [xorR_eq c1 c2 c3]
        refine ⟨by rw [xorR_eq c2 c1 c3.symm], ?_⟩
        rw [xorR_un d1 c2 (by omega) (by omega)]
        rfl
      · by_cases c4 : a = -b
        · rw [xorR_un c1 c2 c3 c4]
          refine ⟨by rw [xorR_un c2 c1 (fun e => c3 e.symm) (by omega)], ?_⟩
          rw [xorR_eq d1 c2 (by omega)]
          rfl
        · rw [xorR_put c1 c2 c3 c4] at hk ⊢
          have hk' := turn_k hk
          refine ⟨?_, ?_⟩
          · rw [xorR_put c2 c1 (fun e => c3 e.symm) (by omega), xGate_swap c3 c4, xSign_swap, turn_again hm hk']
          · rw [xorR_put d1 c2 (by omega) (by omega), xGate_neg, xSign_neg ha, turn_again hm hk']
            unfold turnR
            cases xSign a b <;> simp
theorem met_abs {m : Int} {n l : Nat} {V : Nat → Bool} {a : Int} (ha : mkP m n a = true) (hl : (l : Int) = 1 + m + n) : metB a l V = (metB (absI a) l V != decide (a < 0)) := by
  by_cases h : a < 0
  · have e : absI a = -a := by unfold absI; rw [if_pos h]
    rw [e, met_turn ha hl]
    cases metB a l V <;> simp [h]
  · have e : absI a = a := by unfold absI; rw [if_neg h]
    rw [e]
    simp [h]
theorem xorR_says {m : Int} {n : Nat} {G : Nat → Gt} {a b : Int} (hnet : netB m n G = true) (ha : mkP m n a = true) (hb : mkP m n b = true) (hk : (xorR m n G a b).k ≠ 0) :
    SayP m (xorR m n G a b).n (xorR m n G a b).G a b (xorR m n G a b).k true := by
  intro I hI
  obtain ⟨q1, q2, q3, q4⟩ := xorR_net hnet ha hb hk
  have ha2 := mkP_more ha q3
  have hb2 := mkP_more hb q3
  rw [if_pos rfl]
  have t0 : ∀ k H, atB (outL I H k) 0 = true := fun k H => outL_top
  have ln : ∀ k, 0 < 1 + I.length + k := fun k => by omega
  by_cases c1 : absI a = 1
  · rw [xorR_one c1]
    simp only
    rw [abs_one] at c1
    rcases c1 with rfl | rfl
    · rw [if_pos rfl, met_one (t0 _ _) (ln _), met_turn hb (by omega)]
      simp
    · rw [if_neg (by omega), met_not (t0 _ _) (ln _)]
      simp
  · by_cases c2 : absI b = 1
    · rw [xorR_two c1 c2]
      simp only
      rw [abs_one] at c2
      rcases c2 with rfl | rfl
      · rw [if_pos rfl, met_one (t0 _ _) (ln _), met_turn ha (by omega)]
        simp
      · rw [if_neg (by omega), met_not (t0 _ _) (ln _)]
        simp
    · by_cases c3 : a = b
      · rw [xorR_eq c1 c2 c3]
        simp only
        rw [met_not (t0 _ _) (ln _), c3]
        simp
      · by_cases c4 : a = -b
        · rw [xorR_un c1 c2 c3 c4]
          simp only
          rw [met_one (t0 _ _) (ln _), c4, met_turn hb (by omega)]
          cases metB b (1 + I.length + n) (atB (outL I G n)) <;> rfl
        · rw [xorR_put c1 c2 c3 c4] at hk q1 q2 q3 ha2 hb2 ⊢
          have hk' := turn_k hk
          have q1' : netB (putR m n G (xGate a b)).m (putR m n G (xGate a b)).n (putR m n G (xGate a b)).G = true := q1
          have hs := put_says hI hk' q1'
          obtain ⟨i, h1, _, h3, _, _, _, _, h8⟩ := putR_loc (by omega) hk'
          have hx : (xGate a b).x = true := by unfold xGate; split <;> rfl
          rw [if_pos hx] at hs
          have hl : ((1 + I.length + (putR m n G (xGate a b)).n : Nat) : Int) = 1 + m + ((putR m n G (xGate a b)).n : Int) := by omega
          have hkp : mkP m (putR m n G (xGate a b)).n (putR m n G (xGate a b)).k = true := by rw [mkP_iff, h3]; omega
          show metB (if xSign a b = true then -(putR m n G (xGate a b)).k else (putR m n G (xGate a b)).k) (1 + I.length + (putR m n G (xGate a b)).n) (atB (outL I (putR m n G (xGate a b)).G (putR m n G (xGate a b)).n)) = (metB a (1 + I.length + (putR m n G (xGate a b)).n) (atB (outL I (putR m n G (xGate a b)).G (putR m n G (xGate a b)).n)) != metB b (1 + I.length + (putR m n G (xGate a b)).n) (atB (outL I (putR m n G (xGate a b)).G (putR m n G (xGate a b)).n)))
          have ha3 : mkP m (putR m n G (xGate a b)).n a = true := ha2
          have hb3 : mkP m (putR m n G (xGate a b)).n b = true := hb2
          rw [met_abs ha3 hl, met_abs hb3 hl]
          have hturn := met_turn (V := atB (outL I (putR m n G (xGate a b)).G (putR m n G (xGate a b)).n)) hkp hl
          generalize putR m n G (xGate a b) = r at *
          have hab : (metB (xGate a b).a (1 + I.length + r.n) (atB (outL I r.G r.n)) != metB (xGate a b).b (1 + I.length + r.n) (atB (outL I r.G r.n))) = (metB (absI a) (1 + I.length + r.n) (atB (outL I r.G r.n)) != metB (absI b) (1 + I.length + r.n) (atB (outL I r.G r.n))) := by
            unfold xGate
            split
            · simp only
              cases metB (absI a) (1 + I.length + r.n) (atB (outL I r.G r.n)) <;> cases metB (absI b) (1 + I.length + r.n) (atB (outL I r.G r.n)) <;> rfl
            · rfl
          rw [hab] at hs
          unfold xSign
          generalize metB (absI a) (1 + I.length + r.n) (atB (outL I r.G r.n)) = A at *
          generalize metB (absI b) (1 + I.length + r.n) (atB (outL I r.G r.n)) = B at *
          by_cases s : (decide (a < 0) != decide (b < 0)) = true
          · rw [if_pos s, hturn, hs]
            revert s
            cases A <;> cases B <;> cases decide (a < 0) <;> cases decide (b < 0) <;> simp
          · rw [if_neg s, hs]
            revert s
            cases A <;> cases B <;> cases decide (a < 0) <;> cases decide (b < 0) <;> simp
theorem netXor_in {m : Int} {n : Nat} {G : Nat → Gt} {a b : Int} (h : (netXorR m n G a b).k ≠ 0) : inB m n G a b := by
  by_cases hi : inB m n G a b
  · exact hi
  · rw [netXorR_no hi] at h; exact absurd rfl h
theorem netXor_zero {m : Int} {n : Nat} {G : Nat → Gt} {a b : Int} (h : (netXorR m n G a b).k = 0) : (netXorR m n G a b).m = 0 ∧ (netXorR m n G a b).n = 0 := by
  by_cases hi : inB m n G a b
  · rw [netXorR_yes hi] at h ⊢
    have hm := (netB_iff.1 hi.1).1
    have ha := (mkP_iff.1 hi.2.1).1
    have hb := (mkP_iff.1 hi.2.2).1
    by_cases c1 : absI a = 1
    · rw [xorR_one c1] at h; simp only at h; split at h <;> omega
    · by_cases c2 : absI b = 1
      · rw [xorR_two c1 c2] at h; simp only at h; split at h <;> omega
      · by_cases c3 : a = b
        · rw [xorR_eq c1 c2 c3] at h; simp only at h; omega
        · by_cases c4 : a = -b
          · rw [xorR_un c1 c2 c3 c4] at h; simp only at h; omega
          · rw [xorR_put c1 c2 c3 c4] at h ⊢
            have hz : (putR m n G (xGate a b)).k = 0 := by
              unfold turnR at h
              simp only at h
              split at h <;> omega
            exact putR_none hm hz
  · rw [netXorR_no hi]; exact ⟨rfl, rfl⟩
theorem netXor_facts {m : Int} {n : Nat} {G : Nat → Gt} {a b : Int} (h : (netXorR m n G a b).k ≠ 0) :
    ∃ M : Nat, m = (M : Int) ∧ netB (M : Int) n G = true ∧ (netXorR m n G a b).m = (M : Int) ∧ netB (M : Int) (netXorR m n G a b).n (netXorR m n G a b).G = true ∧ n ≤ (netXorR m n G a b).n ∧ (netXorR m n G a b).n ≤ n + 1 ∧ (∀ i, i < n → (netXorR m n G a b).G i = G i) ∧ SayP (M : Int) (netXorR m n G a b).n (netXorR m n G a b).G a b (netXorR m n G a b).k true ∧ (-700 ≤ (netXorR m n G a b).k ∧ (netXorR m n G a b).k ≤ 700) ∧ (netXorR (netXorR m n G a b).m (netXorR m n G a b).n (netXorR m n G a b).G b a = netXorR m n G a b ∧ netXorR (netXorR m n G a b).m (netXorR m n G a b).n (netXorR m n G a b).G (-a) b = turnR (netXorR m n G a b) true) ∧ (-700 ≤ a ∧ a ≤ 700) := by
  obtain ⟨i1, i2, i3⟩ := netXor_in h
  obtain ⟨m0, m8, n6, _⟩ := netB_iff.1 i1
  obtain ⟨M, rfl⟩ := Int.eq_ofNat_of_zero_le m0
  have e := netXorR_yes (m := (M : Int)) (n := n) (G := G) (a := a) (b := b) ⟨i1, i2, i3⟩
  rw [e] at h ⊢
  obtain ⟨q1, q2, q3, q4⟩ := xorR_net i1 i2 i3 h
  obtain ⟨x1, x2⟩ := xorR_ext m0 h
  have q1' := q1
  rw [q2] at q1'
  have a1 := mkP_iff.1 i2
  have hna : mkP (M : Int) n (-a) = true := by rw [mkP_iff]; omega
  have hin : inB (xorR (M : Int) n G a b).m (xorR (M : Int) n G a b).n (xorR (M : Int) n G a b).G b a := ⟨q1, by rw [q2]; exact mkP_more i3 q3, by rw [q2]; exact mkP_more i2 q3⟩
  have hin2 : inB (xorR (M : Int) n G a b).m (xorR (M : Int) n G a b).n (xorR (M : Int) n G a b).G (-a) b := ⟨q1, by rw [q2]; exact mkP_more hna q3, by rw [q2]; exact mkP_more i3 q3⟩
  have q5 := mkP_iff.1 q4
  have q6 := (netB_iff.1 q1').2.2.1
  have ag := xorR_again m0 (mkP_iff.1 i2).1 (mkP_iff.1 i3).1 h
  exact ⟨M, rfl, i1, q2, q1', q3, x1, x2, xorR_says i1 i2 i3 h, by omega, ⟨by rw [netXorR_yes hin]; exact ag.1, by rw [netXorR_yes hin2]; exact ag.2⟩, by omega⟩
theorem outL_cong {I : List Bool} {G H : Nat → Gt} : ∀ {n : Nat}, (∀ j, j < n → H j = G j) → outL I H n = outL I G n
  | 0, _ => rfl
  | n + 1, h => by rw [outL, outL, outL_cong (fun j hj => h j (by omega)), h n (by omega)]
/-- What a mark says, where these come in. -/
def sy (s : KS) (I : List Bool) (x : Int) : Bool := metB x (1 + I.length + s.n) (atB (outL I s.G s.n))
/-- One net holds what the other one has. -/
def Ex (s t : KS) : Prop := t.m = s.m ∧ s.n ≤ t.n ∧ ∀ j, j < s.n → t.G j = s.G j
theorem Ex.refl (s : KS) : Ex s s := ⟨rfl, Nat.le_refl _, fun _ _ => rfl⟩
theorem Ex.trans {s t u : KS} (h : Ex s t) (k : Ex t u) : Ex s u := ⟨k.1.trans h.1, Nat.le_trans h.2.1 k.2.1, fun j hj => (k.2.2 j (Nat.lt_of_lt_of_le hj h.2.1)).trans (h.2.2 j hj)⟩
theorem met_cong {x : Int} {n l l' : Nat} {m : Int} {V V' : Nat → Bool} (hx : mkP m n x = true) (hl : 1 + m + n ≤ (l : Int)) (hl' : 1 + m + n ≤ (l' : Int)) (hV : ∀ i : Nat, (i : Int) < 1 + m + n → V i = V' i) : metB x l V = metB x l' V' := by
  rw [mkP_iff] at hx
  unfold metB
  by_cases h : 0 < x
  · rw [if_pos h, if_pos h, hV (x - 1).toNat (by omega)]
    simp only [show x ≤ (l : Int) from by omega, show x ≤ (l' : Int) from by omega]
  · rw [if_neg h, if_neg h, if_pos (by omega), if_pos (by omega), hV (-x - 1).toNat (by omega)]
    simp only [show -(l : Int) ≤ x from by omega, show -(l' : Int) ≤ x from by omega]
theorem sy_ex {s t : KS} {I : List Bool} {x : Int} (h : Ex s t) (hI : (I.length : Int) = s.m) (hx : mkP s.m s.n x = true) : sy t I x = sy s I x := by
  unfold sy
  refine met_cong hx (by have := h.2.1; omega) (by omega) (fun i hi => ?_)
  rw [outL_pre (j := s.n) (by omega) h.2.1, outL_cong h.2.2]
theorem sy_neg {s : KS} {I : List Bool} {x : Int} (hI : (I.length : Int) = s.m) (hx : mkP s.m s.n x = true) : sy s I (-x) = !sy s I x := met_turn hx (by omega)
theorem sy_one (s : KS) (I : List Bool) : sy s I 1 = true := met_one outL_top (by omega)
theorem sy_not (s : KS) (I : List Bool) : sy s I (-1) = false := met_not outL_top (by omega)
/-- What comes of a step: the net has grown, and the mark says this. -/
structure Say (s : KS) (p : KS × Int) (I : List Bool) (v : Bool) : Prop where
  s0 : s.ok = true
  ex : Ex s p.1
  k : KOk p.1
  m : Mk p.1 p.2
  v : sy p.1 I p.2 = v
theorem Mk.mk {s : KS} {a : Int} (h : Mk s a) (hk : s.ok = true) : mkP s.m s.n a = true := h.2.2 hk
theorem and_say {s : KS} {I : List Bool} {a b : Int} (hs : KOk s) (ha : Mk s a) (hb : Mk s b) (hI : (I.length : Int) = s.m) (hk : (andK 1 s a b).1.ok = true) : Say s (andK 1 s a b) I (sy s I a && sy s I b) := by
  have h0 := andK_ok hk
  have hg := andK_good (z := 1) (by omega) hs ha hb
  have e : andK 1 s a b = kR (andR s.m s.n s.G a b) := if_pos h0
  have hne : (andR s.m s.n s.G a b).k ≠ 0 := by rw [e] at hk; simpa [kR] using hk
  have hn := hs.2.2.2 h0
  obtain ⟨q1, q2, q3, q4⟩ := andR_net hn (ha.mk h0) (hb.mk h0) hne
  have hx := andR_ext hs.1 hne
  have ex : Ex s (andK 1 s a b).1 := by rw [e]; exact ⟨q2, q3, hx.2⟩
  refine ⟨h0, ex, hg.1, hg.2.1, ?_⟩
  have hsay := andR_says hn (ha.mk h0) (hb.mk h0) hne I hI
  rw [← sy_ex ex hI (ha.mk h0), ← sy_ex ex hI (hb.mk h0)]
  rw [e]
  simpa [sy, kR] using hsay
theorem xor_say {s : KS} {I : List Bool} {a b : Int} (hs : KOk s) (ha : Mk s a) (hb : Mk s b) (hI : (I.length : Int) = s.m) (hk : (xorK 1 s a b).1.ok = true) : Say s (xorK 1 s a b) I (sy s I a != sy s I b) := by
  have h0 := xorK_ok hk
  have hg := xorK_good (z := 1) (by omega) hs ha hb
  have e : xorK 1 s a b = kR (xorR s.m s.n s.G a b) := if_pos h0
  have hne : (xorR s.m s.n s.G a b).k ≠ 0 := by rw [e] at hk; simpa [kR] using hk
  have hn := hs.2.2.2 h0
  obtain ⟨q1, q2, q3, q4⟩ := xorR_net hn (ha.mk h0) (hb.mk h0) hne
  have hx := xorR_ext hs.1 hne
  have ex : Ex s (xorK 1 s a b).1 := by rw [e]; exact ⟨q2, q3, hx.2⟩
  refine ⟨h0, ex, hg.1, hg.2.1, ?_⟩
  have hsay := xorR_says hn (ha.mk h0) (hb.mk h0) hne I hI
  rw [← sy_ex ex hI (ha.mk h0), ← sy_ex ex hI (hb.mk h0)]
  rw [e]
  simpa [sy, kR] using hsay
theorem Say.I {s : KS} {p : KS × Int} {I : List Bool} {v : Bool} (h : Say s p I v) (hI : (I.length : Int) = s.m) : (I.length : Int) = p.1.m := by rw [h.ex.1]; exact hI
theorem or_say {s : KS} {I : List Bool} {a b : Int} (hs : KOk s) (ha : Mk s a) (hb : Mk s b) (hI : (I.length : Int) = s.m) (hk : (orK 1 s a b).1.ok = true) : Say s (orK 1 s a b) I (sy s I a || sy s I b) := by
  have h := and_say hs ha.neg hb.neg hI hk
  refine ⟨h.s0, h.ex, h.k, h.m.neg, ?_⟩
  show sy _ I (-(andK 1 s (-a) (-b)).2) = _
  have hk' : (andK 1 s (-a) (-b)).1.ok = true := hk
  rw [show (orK 1 s a b).1 = (andK 1 s (-a) (-b)).1 from rfl, sy_neg (h.I hI) (h.m.mk hk'), h.v, sy_neg hI (ha.mk h.s0), sy_neg hI (hb.mk h.s0)]
  cases sy s I a <;> cases sy s I b <;> rfl
theorem one_say {s : KS} {I : List Bool} {c a b : Int} (hs : KOk s) (hc : Mk s c) (ha : Mk s a) (hb : Mk s b) (hI : (I.length : Int) = s.m) (hk : (oneK 1 s c a b).1.ok = true) : Say s (oneK 1 s c a b) I (if sy s I c = true then sy s I a else sy s I b) := by
  have k2 := orK_ok (z := 1) hk
  have k1 := andK_ok k2
  have h1 := and_say hs hc ha hI k1
  have l1 : Le s (andK 1 s c a).1 := (andK_good (z := 1) (by omega) hs hc ha).2.2
  have h2 := and_say h1.k (hc.le l1).neg (hb.le l1) (h1.I hI) k2
  have l2 : Le (andK 1 s c a).1 (andK 1 (andK 1 s c a).1 (-c) b).1 := (andK_good (z := 1) (by omega) h1.k (hc.le l1).neg (hb.le l1)).2.2
  have h3 := or_say h2.k (h1.m.le l2) h2.m (h2.I (h1.I hI)) hk
  refine ⟨h1.s0, (h1.ex.trans h2.ex).trans h3.ex, h3.k, h3.m, ?_⟩
  have h3v := h3.v
  rw [sy_ex h2.ex (h1.I hI) (h1.m.mk k1), h1.v, h2.v, sy_neg (h1.I hI) ((hc.le l1).mk k1), sy_ex h1.ex hI (hc.mk h1.s0), sy_ex h1.ex hI (hb.mk h1.s0)] at h3v
  show sy _ I _ = _
  refine h3v.trans ?_
  cases sy s I c <;> cases sy s I a <;> cases sy s I b <;> rfl
/-- Rows: bit by bit. -/
theorem ifs_say {s : KS} {I : List Bool} {c : Int} {L M : List Int} (hs : KOk s) (hc : Mk s c) (hL : MkL s L) (hM : MkL s M) (hI : (I.length : Int) = s.m) : ∀ i, i ≤ L.length → i ≤ M.length → (ifsK 1 c s L M i).1.ok = true →
    s.ok = true ∧ Ex s (ifsK 1 c s L M i).1 ∧ KOk (ifsK 1 c s L M i).1 ∧ MkL (ifsK 1 c s L M i).1 (ifsK 1 c s L M i).2 ∧ ∀ j, j < i → sy (ifsK 1 c s L M i).1 I (at0 (ifsK 1 c s L M i).2 j) = if sy s I c = true then sy s I (at0 L j) else sy s I (at0 M j)
  | 0, _, _, hk => ⟨hk, Ex.refl _, hs, fun i hi => by simp [ifsK, mapK] at hi, fun j hj => by omega⟩
  | i + 1, h1, h2, hk => by
    have hk0 : (ifsK 1 c s L M i).1.ok = true := oneK_ok (z := 1) hk
    obtain ⟨q0, q1, q2, q3, q4⟩ := ifs_say hs hc hL hM hI i (by omega) (by omega) hk0
    have le : Le s (ifsK 1 c s L M i).1 := fun _ => ⟨q0, q1.1, q1.2.1⟩
    have mL := (hL i (by omega)).le le
    have mM := (hM i (by omega)).le le
    have hI' : (I.length : Int) = (ifsK 1 c s L M i).1.m := by rw [q1.1]; exact hI
    have hone := one_say q2 (hc.le le) mL mM hI' hk
    have hlen : (ifsK 1 c s L M i).2.length = i := mapK_len _ _ _ _ _
    have e2 : (ifsK 1 c s L M (i + 1)).2 = (ifsK 1 c s L M i).2 ++ [(oneK 1 (ifsK 1 c s L M i).1 c (at0 L i) (at0 M i)).2] := rfl
    have e1 : (ifsK 1 c s L M (i + 1)).1 = (oneK 1 (ifsK 1 c s L M i).1 c (at0 L i) (at0 M i)).1 := rfl
    have le2 : Le (ifsK 1 c s L M i).1 (ifsK 1 c s L M (i + 1)).1 := fun _ => ⟨hk0, hone.ex.1, hone.ex.2.1⟩
    refine ⟨q0, q1.trans hone.ex, hone.k, by rw [e2]; exact (q3.le le2).snoc hone.m, fun j hj => ?_⟩
    rw [e2]
    by_cases e : j = i
    · subst e
      have : at0 ((ifsK 1 c s L M j).2 ++ [(oneK 1 (ifsK 1 c s L M j).1 c (at0 L j) (at0 M j)).2]) j = (oneK 1 (ifsK 1 c s L M j).1 c (at0 L j) (at0 M j)).2 := by
        have := at0_last (ifsK 1 c s L M j).2 (oneK 1 (ifsK 1 c s L M j).1 c (at0 L j) (at0 M j)).2
        rwa [hlen] at this
      rw [this, e1, hone.v, sy_ex q1 hI (hc.mk q0), sy_ex q1 hI ((hL j (by omega)).mk q0), sy_ex q1 hI ((hM j (by omega)).mk q0)]
    · rw [at0_fore (by omega), e1, sy_ex hone.ex hI' ((q3 j (by omega)).mk hk0)]
      exact q4 j (by omega)
/-- What the law asks of what BitsIf hands back, if it hands back something. -/
structure IfF (m : Int) (n : Nat) (G : Nat → Gt) (c : Int) (L M : List Int) (r : BR) : Prop where
  net : netB m n G = true
  rm : r.m = m
  rnet : netB r.m r.n r.G = true
  rn : n ≤ r.n
  pre : ∀ j, j < n → r.G j = G j
  len : r.L.length = L.length ∧ L.length = M.length ∧ 1 ≤ L.length ∧ L.length ≤ 4
  bd : ∀ i, i < L.length → -700 ≤ at0 r.L i ∧ at0 r.L i ≤ 700
  say : ∀ I : List Bool, (I.length : Int) = m → ∀ i, i < L.length → metB (at0 r.L i) (1 + I.length + r.n) (atB (outL I r.G r.n)) = if metB c (1 + I.length + r.n) (atB (outL I r.G r.n)) = true then metB (at0 L i) (1 + I.length + r.n) (atB (outL I r.G r.n)) else metB (at0 M i) (1 + I.length + r.n) (atB (outL I r.G r.n))
theorem ifBR_facts {m : Int} {n : Nat} {G : Nat → Gt} {c : Int} {L M : List Int} (h : (ifBR m n G c L M).L.length ≠ 0) : IfF m n G c L M (ifBR m n G c L M) := by
  by_cases hp : IfP m n G c L M
  · obtain ⟨h1, h2, h3, h4, h5⟩ := hp
    have e := ifBR_yes (c := c) ⟨h1, h2, h3, h4, h5⟩
    rw [e] at h ⊢
    cases hok : (ifsK 1 c (kS m n G) L M L.length).1.ok
    · rw [brK_no hok] at h; simp [nilB] at h
    · rw [brK_yes hok]
      have hs := kS_ok (G := G) h1
      have hc : Mk (kS m n G) c := kS_mk h1 h5
      have key := fun I hI => ifs_say (I := I) hs hc (h2.mk (G := G) h1) (h3.mk (G := G) h1) hI L.length (Nat.le_refl _) (by omega) hok
      have hm0 := (netB_iff.1 h1).1
      obtain ⟨q0, q1, q2, q3, q4⟩ := key (List.replicate m.toNat false) (by simp; show _ = m; omega)
      have hlen : (ifsK 1 c (kS m n G) L M L.length).2.length = L.length := mapK_len _ _ _ _ _
      refine ⟨h1, q1.1, q2.2.2.2 hok, q1.2.1, q1.2.2, ⟨hlen, h4, h2.2.1, h2.2.2⟩, fun i hi => ⟨(q3 i (by omega)).1, (q3 i (by omega)).2.1⟩, fun I hI i hi => ?_⟩
      have hv := (key I hI).2.2.2.2 i hi
      rw [← sy_ex q1 hI (hc.mk q0), ← sy_ex q1 hI (((h2.mk (G := G) h1) i hi).mk q0), ← sy_ex q1 hI (((h3.mk (G := G) h1) i (by omega)).mk q0)] at hv
      exact hv
  · rw [ifBR_no hp] at h; simp [nilB] at h
theorem ifBR_zero {m : Int} {n : Nat} {G : Nat → Gt} {c : Int} {L M : List Int} (h : (ifBR m n G c L M).L.length = 0) : (ifBR m n G c L M).m = 0 ∧ (ifBR m n G c L M).n = 0 := by
  by_cases hp : IfP m n G c L M
  · rw [ifBR_yes hp] at h ⊢
    cases hok : (ifsK 1 c (kS m n G) L M L.length).1.ok
    · rw [brK_no hok]; exact ⟨rfl, rfl⟩
    · rw [brK_yes hok] at h
      have hlen : (ifsK 1 c (kS m n G) L M L.length).2.length = L.length := mapK_len _ _ _ _ _
      have h2 := hp.2.1.2.1
      simp only at h
      omega
  · rw [ifBR_no hp]; exact ⟨rfl, rfl⟩
set_option maxRecDepth 100000 in
set_option maxHeartbeats 1000000 in
theorem wpInts_same (a c : Option Addr) (n cap cap' : Nat) (V : Nat → Int) (w : World) (hd : IntsAt w a n V) (hd' : IntsAt w c n V) (hn : n ≤ 1048576) :
    Calls Tryd.prog 20 #[.slice a n cap, .slice c n cap'] w fun e w' => e = .returned (.bool true) ∧ Below w.heap.size w w' := by
  have kn : ((n : Int) != (n : Int)) = false := by simp
  have HD := hide hd
  have HE := hide hd'
  clear hd hd'
  go_enter Tryd.func20, Tryd.ntmps20
  go_wp2
  go_loopw [5] (fun i wr => ∃ j : Nat, j ≤ n ∧ i = .int .i64 j ∧ Below w.heap.size w wr) (fun i _ => n - (intOf i).toNat)
  case atStart => exact ⟨0, by omega, rfl, Below.refl _ _⟩
  case round =>
    obtain ⟨j, hj, rfl, be⟩ := hrel
    by_cases hlt : j < n
    · obtain ⟨b, o, rfl, hb, h1⟩ := (unhide HD).resolve_left (by omega)
      obtain ⟨b', o', rfl, hb', h2⟩ := (unhide HE).resolve_left (by omega)
      have c1 := (be.cell (p := ⟨b, o + j, none⟩) hb).trans (h1 j hlt)
      have c2 := (be.cell (p := ⟨b', o' + j, none⟩) hb').trans (h2 j hlt)
      have kv : (V j != V j) = false := by simp
      clear h1 h2
      go_wp2
      go_region
      all_goals go_wp2
      all_goals go_roundw
      all_goals first
        | exact ⟨j + 1, by omega, by go_num, (by first | exact be | exact be.drew)⟩
        | (simp [intOf]; omega)
    · have ej : j = n := by omega
      subst ej
      go_wp2
      go_ret
      exact ⟨rfl, be⟩
set_option maxRecDepth 100000 in
set_option maxHeartbeats 1000000 in
theorem wpHash_any (R : Nat) (a : Option Addr) (l c : Nat) (w : World) (hby : Byts w R a l) (hl : l ≤ 1048576) :
    Calls Tryd.prog 12 #[.slice a l c] w fun e w' => ∃ z : Int, e = .returned (.int .i64 z) ∧ 0 ≤ z ∧ z ≤ 1048576 ∧ w' = w := by
  have HB := hide hby
  clear hby
  go_enter Tryd.func12, Tryd.ntmps12
  go_wp2
  go_loopw [3, 4] (fun s i wr => ∃ (j : Nat) (z : Int), j ≤ l ∧ i = .int .i64 j ∧ s = .int .i64 z ∧ 0 ≤ z ∧ z ≤ 1048576 ∧ wr = w) (fun _ i _ => l - (intOf i).toNat)
  case atStart => exact ⟨0, l, by omega, rfl, rfl, by omega, by omega, rfl⟩
  case round =>
    obtain ⟨j, z, hj, rfl, rfl, z0, z1, rfl⟩ := hrel
    by_cases hlt : j < l
    · by_cases h40 : j < 40
      · have k40 : decide ((j : Int) < 40) = true := by simp; omega
        obtain ⟨b, o, rfl, hb, h1⟩ := (unhide HB).resolve_left (by omega)
        obtain ⟨x, x0, x1, hx⟩ := h1 j hlt
        have hm : IntKind.i64.wrap (z * 7) = z * 7 := by rw [IntKind.wrap_i64]; omega
        have ha : IntKind.i64.wrap (z * 7 + x) = z * 7 + x := by rw [IntKind.wrap_i64]; omega
        have hxw : IntKind.i64.wrap x = x := by rw [IntKind.wrap_i64]; omega
        have ht : (z * 7 + x).tmod 4096 = (z * 7 + x) % 4096 := Int.tmod_eq_emod_of_nonneg (by omega)
        have hr : IntKind.i64.wrap ((z * 7 + x) % 4096) = (z * 7 + x) % 4096 := by rw [IntKind.wrap_i64]; omega
        clear h1
        go_wp2
        go_roundw
        case rel => exact ⟨j + 1, (z * 7 + x) % 4096, by omega, by go_num, (by first | rfl | simp only [ht]), by omega, by omega, (by first | rfl | trivial)⟩
        case measure => simp [intOf]; omega
      · have k40 : decide ((j : Int) < 40) = false := by simp; omega
        go_wp2
        go_ret
        exact ⟨z, rfl, z0, z1, rfl⟩
    · go_wp2
      go_ret
      exact ⟨z, rfl, z0, z1, rfl⟩
set_option maxRecDepth 100000 in
set_option maxHeartbeats 1000000 in
theorem wpIns_any (m : Nat) (ad : Option Addr) (n cap : Nat) (k : Int) (w : World) (hm : m ≤ 9) :
    Calls Tryd.prog 11 #[.agg #[.int .i64 (m : Int), .slice ad n cap], .int .i64 k] w fun e w' => ∃ I b c, e = .returned (.slice (some ⟨b, 0, none⟩) m c) ∧ I.length = m ∧ b < w'.heap.size ∧ Bls w' b 0 m (atB I) ∧ Below w.heap.size w w' := by
  obtain ⟨wz, hwz⟩ : ∃ wz, wz = w.alloc (.cells #[.int .i64 (m : Int), .slice ad n cap] 25) := ⟨_, rfl⟩
  have BZ : Below w.heap.size w wz := by rw [hwz]; exact (Below.refl _ _).alloc (Nat.le_refl _) _
  have p0 : wz.cell? ⟨w.heap.size, 0, none⟩ = some (.int .i64 (m : Int)) := by rw [hwz]; simp [go_sem]
  have zs : wz.heap.size = w.heap.size + 1 := by rw [hwz]; simp
  have bt : Below wz.heap.size wz (wz.alloc (.cells #[] 4)) := (Below.refl _ _).alloc (Nat.le_refl _) _
  have h0 : Hid ((wz.alloc (.cells #[] 4)).ownsRow (w.heap.size + 1) 4 1 (.slice (some ⟨wz.heap.size, 0, none⟩) 0 0) 0 (bcells []) ∧ Below w.heap.size w (wz.alloc (.cells #[] 4)) ∧ (wz.alloc (.cells #[] 4)).cell? ⟨w.heap.size, 0, none⟩ = some (.int .i64 (m : Int))) :=
    ⟨own_mono (own_new wz 4 1) (by omega), BZ.trans (bt.mono BZ.size), cell_later bt p0⟩
  have HZ := hide hwz
  clear hwz BZ bt p0
  go_enter Tryd.func11, Tryd.ntmps11
  go_wp2
  rw [← unhide HZ]
  rw [show w.heap.size + 1 = wz.heap.size from zs.symm]
  clear zs
  go_loopw [5, 6, 1] (fun l i q wr => ∃ j : Nat, j ≤ m ∧ i = .int .i64 j ∧ ∃ g cp I k', q = .int .i64 k' ∧ l = .slice (some ⟨g, 0, none⟩) j cp ∧ wr.ownsRow (w.heap.size + 1) 4 1 (.slice (some ⟨g, 0, none⟩) j cp) j (bcells I) ∧ Below w.heap.size w wr ∧ wr.cell? ⟨w.heap.size, 0, none⟩ = some (.int .i64 (m : Int))) (fun _ i _ _ => m - (intOf i).toNat)
  case atStart => exact ⟨0, by omega, rfl, _, _, [], k, rfl, rfl, (unhide h0).1, (unhide h0).2.1, (unhide h0).2.2⟩
  case round =>
    clear h0
    obtain ⟨j, hj, rfl, g, cp, I, k', rfl, rfl, ho, be, p0⟩ := hrel
    have HO := hide ho
    have lg := own_base ho
    have hIj := own_bols ho
    have bl := be.size
    have pl := World.block_lt_of_cell? _ _ p0
    simp only at pl
    clear ho
    by_cases hlt : j < m
    · obtain ⟨g', cp', w4, hrun, ow4, gr4, at4⟩ := bol_one wr (w.heap.size + 1) (.slice (some ⟨g, 0, none⟩) j cp) j I (k'.tmod 2 == 1) (unhide HO) (by omega) (by omega)
      have HRUN := hide hrun
      have mg : Mov g wr w4 := mov_of_grown gr4
      have HO4 := hide ow4
      have q0 := mg.cell p0 (by simp only; omega)
      have be4 := be.trans (mg.below (by omega) bl)
      have h2 : ((2 : Int) == 0) = false := by decide
      clear hrun ow4 gr4 at4 mg
      go_wp2_with (first | (at_builtin; refine wpList_append_run _ rfl (.tmp 14) (.tmp 18) 32 rfl _ _ _ _ rfl rfl (unhide HRUN) ?_))
      go_wp2
      go_roundw
      case rel => exact ⟨j + 1, by omega, by go_num, g', cp', I ++ [k'.tmod 2 == 1], _, rfl, rfl, unhide HO4, be4, q0⟩
      case measure => simp [intOf]; omega
    · have ej : j = m := by omega
      subst ej
      go_wp2
      go_ret
      exact ⟨I, g, cp, rfl, hIj, (own_cap (unhide HO)).2, own_bls (unhide HO) hIj, be⟩
set_option maxRecDepth 100000 in
set_option maxHeartbeats 1000000 in
theorem wpGrown_any (M : Int) (g1 n1 c1 : Nat) (G1 : Nat → Gt) (g2 n2 c2 : Nat) (G2 : Nat → Gt) (w : World) (h1 : GtsAt w (some ⟨g1, 0, none⟩) n1 G1) (h2 : GtsAt w (some ⟨g2, 0, none⟩) n2 G2) (w2 : WG n2 G2) (o2 : netB M n2 G2 = true) (hn : n1 ≤ n2) (hc : n2 ≤ c2) (hn6 : n2 ≤ 1048576) (he : ∀ i, i < n1 → G2 i = G1 i) :
    Calls Tryd.prog 16 #[.agg #[.int .i64 M, .slice (some ⟨g1, 0, none⟩) n1 c1], .agg #[.int .i64 M, .slice (some ⟨g2, 0, none⟩) n2 c2]] w fun e w' => e = .returned (.bool true) ∧ Below w.heap.size w w' := by
  have kM : (M != M) = false := by simp
  have klt : decide ((n2 : Int) < (n1 : Int)) = false := by simp; omega
  have kc : n1 ≤ c2 := by omega
  obtain ⟨wz, hwz⟩ : ∃ wz, wz = (w.alloc (.cells #[.int .i64 M, .slice (some ⟨g1, 0, none⟩) n1 c1] 25)).alloc (.cells #[.int .i64 M, .slice (some ⟨g2, 0, none⟩) n2 c2] 25) := ⟨_, rfl⟩
  have BZ : Below w.heap.size w wz := by rw [hwz]; exact ((Below.refl _ _).alloc (Nat.le_refl _) _).alloc (by simp) _
  have p0 : wz.cell? ⟨w.heap.size, 0, none⟩ = some (.int .i64 M) := by rw [hwz]; simp [go_sem]
  have p1 : wz.cell? ⟨w.heap.size, 1, none⟩ = some (.slice (some ⟨g1, 0, none⟩) n1 c1) := by rw [hwz]; simp [go_sem]
  have q0 : wz.cell? ⟨w.heap.size + 1, 0, none⟩ = some (.int .i64 M) := by rw [hwz]; simp [go_sem]
  have q1 : wz.cell? ⟨w.heap.size + 1, 1, none⟩ = some (.slice (some ⟨g2, 0, none⟩) n2 c2) := by rw [hwz]; simp [go_sem]
  have H1 := hide h1
  have H2 := hide h2
  have HW := hide w2
  have HO := hide o2
  have HE := hide he
  have HZ := hide hwz
  clear h1 h2 w2 o2 he hwz
  go_enter Tryd.func16, Tryd.ntmps16
  go_wp2_with fail
  rw [← unhide HZ]
  refine (iNetOk_any M (some ⟨g2, 0, none⟩) n2 c2 G2 wz ((unhide H2).later BZ) (unhide HW) hn6).mono ?_
  rintro e wa ⟨rfl, ba⟩
  rw [unhide HO]
  have BA := BZ.trans (ba.mono BZ.size)
  replace p0 := cell_later ba p0
  replace p1 := cell_later ba p1
  replace q0 := cell_later ba q0
  replace q1 := cell_later ba q1
  clear ba
  go_wp2_with fail
  have hp : GtsAt wa (some ⟨g2, 0, none⟩) n1 G1 := by
    by_cases e : n1 = 0
    · exact Or.inl e
    · obtain ⟨b, off, e1, e2, e3⟩ := ((unhide H2).later BA).resolve_left (by omega)
      cases e1
      exact Or.inr ⟨g2, 0, rfl, e2, fun i hi => by have := e3 i (by omega); rw [unhide HE i hi] at this; exact this⟩
  refine wp_region_held_drew (S := fun w' => (w'.cell? ⟨w.heap.size, 0, none⟩ = some (.int .i64 M) ∧ w'.cell? ⟨w.heap.size, 1, none⟩ = some (.slice (some ⟨g1, 0, none⟩) n1 c1)) ∧ w'.cell? ⟨w.heap.size + 1, 0, none⟩ = some (.int .i64 M) ∧ w'.cell? ⟨w.heap.size + 1, 1, none⟩ = some (.slice (some ⟨g2, 0, none⟩) n2 c2)) (by kernel_rfl) ?_ (fun hHeld => ?_)
  · exact ⟨⟨p0, p1⟩, q0, q1⟩
  refine wpAnyH_take (i := 0) (v := ?_) rfl (by kernel_rfl) (by kernel_rfl) (by kernel_rfl) (fun _ _ _ h => h) (Or.inl ⟨by rfl, ?_⟩) (by assumption) ?_
  rotate_left
  · (intro w hSw; (try dsimp only at hSw); first | (go_simp; done) | (go_simp; with_reducible rfl))
  try simp only [List.getElem_toArray, List.getElem_cons_succ, List.getElem_cons_zero, Act.put, List.setIfInBounds_toArray, List.set_cons_zero, List.set_cons_succ]
  refine wpAnyH_take (i := 1) (v := ?_) rfl (by kernel_rfl) (by kernel_rfl) (by kernel_rfl) (fun _ _ _ h => h) (Or.inl ⟨by rfl, ?_⟩) (by assumption) ?_
  rotate_left
  · (intro w hSw; (try dsimp only at hSw); first | (go_simp; done) | (go_simp; with_reducible rfl))
  try simp only [List.getElem_toArray, List.getElem_cons_succ, List.getElem_cons_zero, Act.put, List.setIfInBounds_toArray, List.set_cons_zero, List.set_cons_succ]
  refine wpAnyH_take (i := 2) (v := ?_) rfl (by kernel_rfl) (by kernel_rfl) (by kernel_rfl) (fun _ _ _ h => h) (Or.inl ⟨by rfl, ?_⟩) (by assumption) ?_
  rotate_left
  · (intro w hSw; (try dsimp only at hSw); first | (go_simp; done) | (go_simp; with_reducible rfl))
  try simp only [List.getElem_toArray, List.getElem_cons_succ, List.getElem_cons_zero, Act.put, List.setIfInBounds_toArray, List.set_cons_zero, List.set_cons_succ]
  refine wpAnyH_take (i := 3) (v := ?_) rfl (by kernel_rfl) (by kernel_rfl) (by kernel_rfl) (fun _ _ _ h => h) (Or.inl ⟨by rfl, ?_⟩) (by assumption) ?_
  rotate_left
  · (intro w hSw; (try dsimp only at hSw); first | (go_simp; done) | (go_simp; with_reducible rfl))
  try simp only [List.getElem_toArray, List.getElem_cons_succ, List.getElem_cons_zero, Act.put, List.setIfInBounds_toArray, List.set_cons_zero, List.set_cons_succ]
  refine wpAnyH_take (i := 4) (v := ?_) rfl (by kernel_rfl) (by kernel_rfl) (by kernel_rfl) (fun _ _ _ h => h) (Or.inl ⟨by rfl, ?_⟩) (by assumption) ?_
  rotate_left
  · (intro w hSw; (try dsimp only at hSw); first | (go_simp; done) | (go_simp; with_reducible rfl))
  try simp only [List.getElem_toArray, List.getElem_cons_succ, List.getElem_cons_zero, Act.put, List.setIfInBounds_toArray, List.set_cons_zero, List.set_cons_succ]
  refine wpAnyH_take (i := 5) (v := ?_) rfl (by kernel_rfl) (by kernel_rfl) (by kernel_rfl) (fun _ _ _ h => h) (Or.inl ⟨by rfl, ?_⟩) (by assumption) ?_
  rotate_left
  · (intro w hSw; (try dsimp only at hSw); first | (go_simp; done) | (go_simp; with_reducible rfl))
  try simp only [List.getElem_toArray, List.getElem_cons_succ, List.getElem_cons_zero, Act.put, List.setIfInBounds_toArray, List.set_cons_zero, List.set_cons_succ]
  refine wpAnyH_take (i := 6) (v := ?_) rfl (by kernel_rfl) (by kernel_rfl) (by kernel_rfl) (fun _ _ _ h => h) (Or.inl ⟨by rfl, ?_⟩) (by assumption) ?_
  rotate_left
  · (intro w hSw; (try dsimp only at hSw); first | (go_simp; done) | (go_simp; with_reducible rfl))
  try simp only [List.getElem_toArray, List.getElem_cons_succ, List.getElem_cons_zero, Act.put, List.setIfInBounds_toArray, List.set_cons_zero, List.set_cons_succ]
  refine wpAnyH_take (i := 7) (v := ?_) rfl (by kernel_rfl) (by kernel_rfl) (by kernel_rfl) (fun _ _ _ h => h) (Or.inl ⟨by rfl, ?_⟩) (by assumption) ?_
  rotate_left
  · (intro w hSw; (try dsimp only at hSw); first | (go_simp; done) | (go_simp; with_reducible rfl))
  try simp only [List.getElem_toArray, List.getElem_cons_succ, List.getElem_cons_zero, Act.put, List.setIfInBounds_toArray, List.set_cons_zero, List.set_cons_succ]
  refine wpAnyH_take (i := 8) (v := ?_) rfl (by kernel_rfl) (by kernel_rfl) (by kernel_rfl) (fun _ _ _ h => h) (Or.inl ⟨by rfl, ?_⟩) (by assumption) ?_
  rotate_left
  · (intro w hSw; (try dsimp only at hSw); first | (go_simp; done) | (go_simp; with_reducible rfl))
  try simp only [List.getElem_toArray, List.getElem_cons_succ, List.getElem_cons_zero, Act.put, List.setIfInBounds_toArray, List.set_cons_zero, List.set_cons_succ]
  refine wpAnyH_take (i := 9) (v := ?_) rfl (by kernel_rfl) (by kernel_rfl) (by kernel_rfl) (fun _ _ _ h => h) (Or.inl ⟨by rfl, ?_⟩) (by assumption) ?_
  rotate_left
  · (intro w hSw; (try dsimp only at hSw); first | (go_simp; done) | (go_simp; with_reducible rfl))
  try simp only [List.getElem_toArray, List.getElem_cons_succ, List.getElem_cons_zero, Act.put, List.setIfInBounds_toArray, List.set_cons_zero, List.set_cons_succ]
  refine wpAnyH_ready (rs := [10]) (by kernel_rfl) (by simp) ?_
  refine AllReadyH.cons rfl (fun K hK => ?_) AllReadyH.nil
  go_simp
  refine (iNetSame_any M M (some ⟨g1, 0, none⟩) (some ⟨g2, 0, none⟩) n1 n1 c1 c2 G1 G1 _ (((unhide H1).later BA).later (Below.refl _ _).drew) (hp.later (Below.refl _ _).drew) (by omega) (by omega)).mono ?_
  rintro e wb ⟨rfl, bb⟩
  rw [nsB_refl]
  replace p0 := cell_later bb p0
  replace p1 := cell_later bb p1
  replace q0 := cell_later bb q0
  replace q1 := cell_later bb q1
  have BB := BA.drew.trans (bb.mono BA.size)
  clear bb
  go_wp2_with fail
  refine hK.out _ _ ?_ (fun hHeld => ?_)
  · exact ⟨⟨p0, p1⟩, q0, q1⟩
  clear hK K
  try simp only [List.getElem_toArray, List.getElem_cons_succ, List.getElem_cons_zero, Act.put, List.setIfInBounds_toArray, List.set_cons_zero, List.set_cons_succ]
  refine wpAnyH_ready (rs := [11]) (by kernel_rfl) (by simp) ?_
  refine AllReadyH.cons rfl (fun K hK => ?_) AllReadyH.nil
  go_simp
  refine hK.out _ _ ?_ (fun hHeld => ?_)
  · exact ⟨⟨p0, p1⟩, q0, q1⟩
  clear hK K
  try simp only [List.getElem_toArray, List.getElem_cons_succ, List.getElem_cons_zero, Act.put, List.setIfInBounds_toArray, List.set_cons_zero, List.set_cons_succ]
  refine wpAnyH_done (by kernel_rfl) ?_ _
  go_wp2
  go_ret
  exact ⟨rfl, BB⟩
end Go.Proofs.YtmpiiilkaadhfaaDoor
