/- Numbers of a few bits, and what is asked of two. -/
import Derived.Test.YtmpiiilkaadhfaaDoorVecA
import Derived.Deep.RegionHeld3
import Derived.Deep.DrawnRows
import Derived.Laws.EntriesVeiled
namespace Go.Proofs.YtmpiiilkaadhfaaDoor
open Go.ChangeShapes Go.WideShapes Go.ChangeAt Go.RowKit Go.Joins
set_option linter.unusedVariables false
set_option maxRecDepth 100000
theorem two_vals (i : Int) (h0 : 0 ≤ i) (h1 : i ≤ 4) : (i = 0 ∧ two i = 1) ∨ (i = 1 ∧ two i = 2) ∨ (i = 2 ∧ two i = 4) ∨ (i = 3 ∧ two i = 8) ∨ (i = 4 ∧ two i = 16) := by
  have : i = 0 ∨ i = 1 ∨ i = 2 ∨ i = 3 ∨ i = 4 := by omega
  rcases this with rfl | rfl | rfl | rfl | rfl <;> simp [two]
theorem tmod_neg_form (n t : Int) (hn : n < 0) : n.tmod t = -((-n) % t) := by
  have e : n = -(-n) := by omega
  conv => lhs; rw [e]
  rw [Int.neg_tmod, Int.tmod_eq_emod_of_nonneg (by omega)]
theorem tmod_lt (n t : Int) (ht : t = 1 ∨ t = 2 ∨ t = 4 ∨ t = 8 ∨ t = 16) (h : n.tmod t < 0) : n.tmod t + t = n % t := by
  by_cases hn : n < 0
  · rw [tmod_neg_form n t hn] at h ⊢
    rcases ht with rfl | rfl | rfl | rfl | rfl <;> omega
  · rw [Int.tmod_eq_emod_of_nonneg (by omega)] at h
    rcases ht with rfl | rfl | rfl | rfl | rfl <;> omega
theorem mod_wrap (n t : Int) (ht : t = 1 ∨ t = 2 ∨ t = 4 ∨ t = 8 ∨ t = 16) (h : n.tmod t < 0) : wrap64 (n.tmod t + t) = n % t := by
  rw [tmod_lt n t ht h]
  apply Go.IntWalk.wrap64_in
  rcases ht with rfl | rfl | rfl | rfl | rfl <;> omega
theorem tmod_ge (n t : Int) (ht : t = 1 ∨ t = 2 ∨ t = 4 ∨ t = 8 ∨ t = 16) (h : 0 ≤ n.tmod t) : n.tmod t = n % t := by
  by_cases hn : n < 0
  · rw [tmod_neg_form n t hn] at h ⊢
    rcases ht with rfl | rfl | rfl | rfl | rfl <;> omega
  · rw [Int.tmod_eq_emod_of_nonneg (by omega)]
theorem wbit_tab : ∀ m, m < 16 → ∀ k, k < 4 → bits .and .u32 ((m : Nat) / 2 ^ ((k : Nat) : Int).toNat) 1 = ((m : Nat) : Int) / two ((k : Nat) : Int) % 2 := by decide +kernel

theorem wbit_any (x i : Int) (w : World) (h0 : 0 ≤ x) (h1 : x < 16) (i0 : 0 ≤ i) (i1 : i ≤ 3) :
    Calls Tryd.prog 97 #[.int .u32 x, .int .i64 i] w fun e w' => e = .returned (.int .u32 (x / two i % 2)) ∧ w' = w := by
  obtain ⟨m, rfl⟩ := Int.eq_ofNat_of_zero_le h0
  obtain ⟨k, rfl⟩ := Int.eq_ofNat_of_zero_le i0
  go_enter Tryd.func97, Tryd.ntmps97
  go_wp2
  go_ret
  exact ⟨ret_int (wbit_tab m (by omega) k (by omega)), rfl⟩

/-- What a right number stands for, if its highest bit counts below 0. -/
def sgn (a n : Int) : Int := if n / two (a - 1) % 2 = 1 then n - two a else n
def sgnV (a n : Int) : Int := if okB a n = true then sgn a n else 0
theorem ok_of {a n : Int} (h : okB a n = true) : 1 ≤ a ∧ a ≤ 4 ∧ 0 ≤ n ∧ n < two a ∧ n < 16 := by
  simp [okB] at h
  have := two_vals a (by omega) (by omega)
  omega
set_option maxRecDepth 100000 in
set_option maxHeartbeats 400000 in
theorem iVecSigned_any (a n : Int) (w : World) :
    Calls Tryd.prog 80 #[.agg #[.int .i64 a, .int .i64 n]] w fun e w' => e = .returned (.int .i64 (sgnV a n)) ∧ Below w.heap.size w w' := by
  unfold sgnV
  by_cases hok : okB a n = true
  · rw [if_pos hok]
    obtain ⟨h1, h2, h3, h4, h5⟩ := ok_of hok
    have ht := two_vals a (by omega) h2
    unfold sgn
    by_cases hb : n / two (a - 1) % 2 = 1
    · rw [if_pos hb]
      have hbb : (n / two (a - 1) % 2 == 0) = false := by rw [hb]; rfl
      have HB := hide hb
      clear hb
      go_enter Tryd.func80, Tryd.ntmps80
      go_wp2_with fail
      refine (iVecOk_any _ _ _).mono ?_
      rintro e w1 ⟨rfl, b1⟩
      have p0 : w1.cell? ⟨w.heap.size, 0, none⟩ = some (.int .i64 a) := cell_later b1 (by simp)
      have p1 : w1.cell? ⟨w.heap.size, 1, none⟩ = some (.int .i64 n) := cell_later b1 (by simp)
      simp only [World.size_alloc] at b1
      go_wp2_with (go_at_call 97; refine (wbit_any _ _ _ (by omega) (by omega) (by omega) (by omega)).mono ?_; rintro e w' ⟨rfl, rfl⟩)
      go_quiet ((go_at_call 98; exact Calls.quiet_of_same (full_any _ _ (by omega) (by omega))))
      go_wp2
      go_ret
      have e1 := (Below.refl w.heap.size w).alloc (Nat.le_refl _) (.cells #[.int .i64 a, .int .i64 n] 38)
      exact ⟨ret_int (by omega), below_drewN (e1.trans (b1.mono (by simp))) _⟩
    · rw [if_neg hb]
      have hbb : (n / two (a - 1) % 2 == 0) = true := by simp; omega
      have HB := hide hb
      clear hb
      go_enter Tryd.func80, Tryd.ntmps80
      go_wp2_with fail
      refine (iVecOk_any _ _ _).mono ?_
      rintro e w1 ⟨rfl, b1⟩
      have p0 : w1.cell? ⟨w.heap.size, 0, none⟩ = some (.int .i64 a) := cell_later b1 (by simp)
      have p1 : w1.cell? ⟨w.heap.size, 1, none⟩ = some (.int .i64 n) := cell_later b1 (by simp)
      simp only [World.size_alloc] at b1
      go_wp2_with (go_at_call 97; refine (wbit_any _ _ _ (by omega) (by omega) (by omega) (by omega)).mono ?_; rintro e w' ⟨rfl, rfl⟩)
      go_ret
      have e1 := (Below.refl w.heap.size w).alloc (Nat.le_refl _) (.cells #[.int .i64 a, .int .i64 n] 38)
      exact ⟨rfl, e1.trans (b1.mono (by simp))⟩
  · rw [if_neg hok]
    have hf : okB a n = false := by simpa using hok
    go_enter Tryd.func80, Tryd.ntmps80
    go_wp2_with fail
    refine (iVecOk_any _ _ _).mono ?_
    rintro e w1 ⟨rfl, b1⟩
    simp only [World.size_alloc] at b1
    go_wp2
    go_ret
    have e1 := (Below.refl w.heap.size w).alloc (Nat.le_refl _) (.cells #[.int .i64 a, .int .i64 n] 38)
    exact ⟨rfl, e1.trans (b1.mono (by simp))⟩
theorem cut_eq (x a : Int) (h0 : 0 ≤ x) (h1 : x ≤ 4294967295) (i0 : 1 ≤ a) (i1 : a ≤ 4) : bits .and .u32 x (two a - 1) = x % two a := by
  obtain ⟨m, rfl⟩ := Int.eq_ofNat_of_zero_le h0
  have h := two_vals a (by omega) i1
  rcases h with ⟨rfl, e⟩ | ⟨rfl, e⟩ | ⟨rfl, e⟩ | ⟨rfl, e⟩ | ⟨rfl, e⟩
  · omega
  · rw [e]; refine (u32_and_nat m 1 (by omega) (by omega)).trans ?_; rw [Nat.and_two_pow_sub_one_eq_mod m 1]; simp
  · rw [e]; refine (u32_and_nat m 3 (by omega) (by omega)).trans ?_; rw [Nat.and_two_pow_sub_one_eq_mod m 2]; simp
  · rw [e]; refine (u32_and_nat m 7 (by omega) (by omega)).trans ?_; rw [Nat.and_two_pow_sub_one_eq_mod m 3]; simp
  · rw [e]; refine (u32_and_nat m 15 (by omega) (by omega)).trans ?_; rw [Nat.and_two_pow_sub_one_eq_mod m 4]; simp

/-- What a function of the program's rows returns: a word that, cut to size, is R. -/
def Gives (a R : Int) (e : Ending) : Prop := ∃ v, e = .returned (.int .u32 v) ∧ 0 ≤ v ∧ v ≤ 4294967295 ∧ Hid (v % two a = R)
theorem gives {a R v : Int} (h : 0 ≤ v ∧ v ≤ 4294967295 ∧ v % two a = R) : Gives a R (.returned (.int .u32 v)) := ⟨v, rfl, h.1, h.2.1, h.2.2⟩

/-- Rows of an operation's number and its function, as they lie in a block. -/
def RowsAt (w : World) (B : Nat) (rows : List (Int × Nat)) : Prop :=
  ∀ i, i < rows.length → w.cell? ⟨B, i * 2, none⟩ = some (.int .i64 (rows.getD i (0, 0)).1) ∧ w.cell? ⟨B, i * 2 + 1, none⟩ = some (.func (.func (rows.getD i (0, 0)).2) #[] #[])

/-- What the search answers: the function of the first row of that number, or none. -/
def foundV (rows : List (Int × Nat)) (op : Int) : Value :=
  match rows.find? (fun r => r.1 == op) with | some r => .tuple #[.func (.func r.2) #[] #[], .bool true] | none => .tuple #[.nilFunc, .bool false]
theorem foundV_some (rows : List (Int × Nat)) (op : Int) (k : Nat) (ro : Int) (rf : Nat) (hk : k < rows.length) (hno : ∀ j, j < k → (rows.getD j (0, 0)).1 ≠ op) (hr : rows.getD k (0, 0) = (ro, rf)) (h : ro = op) :
    foundV rows op = .tuple #[.func (.func rf) #[] #[], .bool true] := by
  have e : rows.find? (fun r => r.1 == op) = some (ro, rf) := by
    induction rows generalizing k with
    | nil => simp at hk
    | cons x l ih =>
      rw [List.find?_cons]
      cases k with
      | zero => simp at hr; subst hr; simp [h]
      | succ k =>
        have h0 := hno 0 (by omega)
        simp at h0
        have hb : (x.1 == op) = false := by simpa using h0
        rw [hb]
        exact ih k (by simpa using hk) (fun j hj => by simpa using hno (j + 1) (by omega)) (by simpa using hr)
  simp [foundV, e]
theorem foundV_none (rows : List (Int × Nat)) (op : Int) (hno : ∀ j, j < rows.length → (rows.getD j (0, 0)).1 ≠ op) : foundV rows op = .tuple #[.nilFunc, .bool false] := by
  have e : rows.find? (fun r => r.1 == op) = none := by
    rw [List.find?_eq_none]
    intro x hx
    obtain ⟨i, hi, rfl⟩ := List.getElem_of_mem hx
    have := hno i hi
    simpa [List.getD, hi] using this
  simp [foundV, e]

theorem frozen_later {w w' : World} {p : Addr} {v : Value} (hb : Below w.heap.size w w') (h : w.cell? p = some v) (hf : w.frozen? p = false) : w'.frozen? p = false := by rw [hb.frozen (World.block_lt_of_cell? _ _ h)]; exact hf
theorem RowsAt.later {w w' : World} {B : Nat} {rows : List (Int × Nat)} (h : RowsAt w B rows) (hb : Below w.heap.size w w') : RowsAt w' B rows := fun i hi => ⟨cell_later hb (h i hi).1, cell_later hb (h i hi).2⟩
theorem RowsAt.alloc {w : World} {B : Nat} {rows : List (Int × Nat)} (h : RowsAt w B rows) (o : Obj) : RowsAt (w.alloc o) B rows := h.later ((Below.refl _ _).alloc (Nat.le_refl _) _)

attribute [local go_sem ↓] Go.wp_at_zero Go.wp_at_succ

/-- A number and true, or nothing and false. -/
def yesV (a n : Int) : Value := .tuple #[.agg #[.int .i64 a, .int .i64 n], .bool true]
def noV : Value := .tuple #[.agg #[.int .i64 0, .int .i64 0], .bool false]
def unV (op a n : Int) : Value := if okB a n = true ∧ (op = 1 ∨ op = 2) then yesV a (unN op a n) else noV
theorem yesV_form (a n : Int) : ∃ c d t, yesV a n = .tuple #[.agg #[.int .i64 c, .int .i64 d], .bool t] := ⟨a, n, true, rfl⟩
theorem noV_form : ∃ c d t, noV = .tuple #[.agg #[.int .i64 c, .int .i64 d], .bool t] := ⟨0, 0, false, rfl⟩
theorem unV_form (op a n : Int) : ∃ c d t, unV op a n = .tuple #[.agg #[.int .i64 c, .int .i64 d], .bool t] := by
  unfold unV
  split
  · exact yesV_form _ _
  · exact noV_form
theorem wr (x : Int) (h : -1000000 ≤ x ∧ x ≤ 1000000) : IntKind.i64.wrap x = x := by rw [Go.IntWalk.i64_left, Go.IntWalk.wrap64_in _ (by omega)]

attribute [local go_sem ↓] Go.wp_at_zero Go.wp_at_succ

theorem wu (x : Int) (h : 0 ≤ x ∧ x < 16) : IntKind.u32.wrap x = x := by
  simp [IntKind.wrap, IntKind.signed, IntKind.bits]; omega

def pairB (a m b n : Int) : Bool := okB a m && okB b n && decide (a = b)
set_option maxRecDepth 100000 in
set_option maxHeartbeats 1000000 in
theorem vecPair_any (a m b n : Int) (w : World) :
    Calls Tryd.prog 49 #[.agg #[.int .i64 a, .int .i64 m], .agg #[.int .i64 b, .int .i64 n]] w fun e w' => e = .returned (.bool (pairB a m b n)) ∧ Below w.heap.size w w' := by
  unfold pairB
  cases hx : okB a m
  · go_enter Tryd.func49, Tryd.ntmps49
    go_wp2_with fail
    refine (iVecOk_any _ _ _).mono ?_
    rintro e w1 ⟨rfl, b1⟩
    simp only [World.size_alloc] at b1
    rw [hx]
    go_wp2
    go_ret
    have e1 := (((Below.refl w.heap.size w).alloc (by simp <;> omega) (.cells #[.int .i64 a, .int .i64 m] 38)).alloc (by simp <;> omega) (.cells #[.int .i64 b, .int .i64 n] 38)).trans (b1.mono (by omega))
    exact ⟨rfl, e1⟩
  · cases hy : okB b n
    · go_enter Tryd.func49, Tryd.ntmps49
      go_wp2_with fail
      refine (iVecOk_any _ _ _).mono ?_
      rintro e w1 ⟨rfl, b1⟩
      have p00 : w1.cell? ⟨w.heap.size, 0, none⟩ = some (.int .i64 a) := cell_later b1 (by simp [go_sem])
      have p01 : w1.cell? ⟨w.heap.size, 1, none⟩ = some (.int .i64 m) := cell_later b1 (by simp [go_sem])
      have p10 : w1.cell? ⟨w.heap.size + 1, 0, none⟩ = some (.int .i64 b) := cell_later b1 (by simp [go_sem])
      have p11 : w1.cell? ⟨w.heap.size + 1, 1, none⟩ = some (.int .i64 n) := cell_later b1 (by simp [go_sem])
      simp only [World.size_alloc] at b1
      have z1 := b1.size
      simp only [World.size_alloc] at z1
      rw [hx]
      go_wp2_with fail
      refine (iVecOk_any _ _ _).mono ?_
      rintro e w2 ⟨rfl, b2⟩
      rw [hy]
      go_wp2
      go_ret
      have e1 := (((Below.refl w.heap.size w).alloc (by simp <;> omega) (.cells #[.int .i64 a, .int .i64 m] 38)).alloc (by simp <;> omega) (.cells #[.int .i64 b, .int .i64 n] 38)).trans (b1.mono (by omega))
      exact ⟨rfl, e1.trans (b2.mono (by omega))⟩
    · by_cases hab : a = b
      · subst hab
        have hd : (a == a) = true := by simp
        go_enter Tryd.func49, Tryd.ntmps49
        go_wp2_with fail
        refine (iVecOk_any _ _ _).mono ?_
        rintro e w1 ⟨rfl, b1⟩
        have p00 : w1.cell? ⟨w.heap.size, 0, none⟩ = some (.int .i64 a) := cell_later b1 (by simp [go_sem])
        have p01 : w1.cell? ⟨w.heap.size, 1, none⟩ = some (.int .i64 m) := cell_later b1 (by simp [go_sem])
        have p10 : w1.cell? ⟨w.heap.size + 1, 0, none⟩ = some (.int .i64 a) := cell_later b1 (by simp [go_sem])
        have p11 : w1.cell? ⟨w.heap.size + 1, 1, none⟩ = some (.int .i64 n) := cell_later b1 (by simp [go_sem])
        simp only [World.size_alloc] at b1
        have z1 := b1.size
        simp only [World.size_alloc] at z1
        rw [hx]
        go_wp2_with fail
        refine (iVecOk_any _ _ _).mono ?_
        rintro e w2 ⟨rfl, b2⟩
        have q0 := cell_later b2 p00
        have q1 := cell_later b2 p10
        rw [hy]
        go_wp2
        go_ret
        have e1 := (((Below.refl w.heap.size w).alloc (by simp <;> omega) (.cells #[.int .i64 a, .int .i64 m] 38)).alloc (by simp <;> omega) (.cells #[.int .i64 a, .int .i64 n] 38)).trans (b1.mono (by omega))
        exact ⟨ret_bool (by simp), e1.trans (b2.mono (by omega))⟩
      · have hd : (a == b) = false := by simpa using hab
        go_enter Tryd.func49, Tryd.ntmps49
        go_wp2_with fail
        refine (iVecOk_any _ _ _).mono ?_
        rintro e w1 ⟨rfl, b1⟩
        have p00 : w1.cell? ⟨w.heap.size, 0, none⟩ = some (.int .i64 a) := cell_later b1 (by simp [go_sem])
        have p01 : w1.cell? ⟨w.heap.size, 1, none⟩ = some (.int .i64 m) := cell_later b1 (by simp [go_sem])
        have p10 : w1.cell? ⟨w.heap.size + 1, 0, none⟩ = some (.int .i64 b) := cell_later b1 (by simp [go_sem])
        have p11 : w1.cell? ⟨w.heap.size + 1, 1, none⟩ = some (.int .i64 n) := cell_later b1 (by simp [go_sem])
        simp only [World.size_alloc] at b1
        have z1 := b1.size
        simp only [World.size_alloc] at z1
        rw [hx]
        go_wp2_with fail
        refine (iVecOk_any _ _ _).mono ?_
        rintro e w2 ⟨rfl, b2⟩
        have q0 := cell_later b2 p00
        have q1 := cell_later b2 p10
        rw [hy]
        go_wp2
        go_ret
        have e1 := (((Below.refl w.heap.size w).alloc (by simp <;> omega) (.cells #[.int .i64 a, .int .i64 m] 38)).alloc (by simp <;> omega) (.cells #[.int .i64 b, .int .i64 n] 38)).trans (b1.mono (by omega))
        exact ⟨ret_bool (by simp [hab]), e1.trans (b2.mono (by omega))⟩
attribute [local go_sem ↓] Go.wp_at_zero Go.wp_at_succ

def cmpB (op a m n : Int) : Bool := if op = 15 then m == n else if op = 16 then decide (m < n) else decide (sgn a m < sgn a n)
def cmpR (op a m b n : Int) : Bool := if pairB a m b n = true ∧ 15 ≤ op ∧ op ≤ 17 then cmpB op a m n else false
def cmpT (op a m b n : Int) : Bool := if pairB a m b n = true ∧ 15 ≤ op ∧ op ≤ 17 then true else false
theorem ret_bb {a b c d : Bool} (h : a = b) (k : c = d) : Ending.returned (.tuple #[.bool a, .bool c]) = .returned (.tuple #[.bool b, .bool d]) := by rw [h, k]
theorem pair_of {a m b n : Int} (h : pairB a m b n = true) : okB a m = true ∧ okB b n = true ∧ a = b := by
  simp [pairB] at h; exact ⟨h.1.1, h.1.2, h.2⟩

set_option maxRecDepth 100000 in
set_option maxHeartbeats 800000 in
theorem findAsk_any (rows : List (Int × Nat)) (N B : Nat) (op : Int) (w : World) (hN : rows.length = N) (hB : B < w.heap.size) (hn : N ≤ 20) (hr : RowsAt w B rows) :
    Calls Tryd.prog 47 #[.slice (some ⟨B, 0, none⟩) N N, .int .i64 op] w fun e w' =>
      e = .returned (foundV rows op) ∧ Below w.heap.size w w' := by
  have HN := hide hN
  clear hN
  go_enter Tryd.func47, Tryd.ntmps47
  go_wp2
  go_loopw [10] (fun i wr => ∃ k : Nat, k ≤ N ∧ i = .int .i64 k ∧ (∀ j, j < k → (rows.getD j (0, 0)).1 ≠ op) ∧ Below w.heap.size w wr) (fun i _ => N - (intOf i).toNat)
  case atStart => exact ⟨0, Nat.zero_le _, rfl, fun j h => by omega, Below.refl _ _⟩
  case round =>
    obtain ⟨k, hk, rfl, hno, hbel⟩ := hrel
    by_cases hlt : k < N
    · obtain ⟨c0, c1⟩ := hr k (by rw [unhide HN]; exact hlt)
      have d0 := (hbel.cell (p := ⟨B, k * 2, none⟩) hB).trans c0
      have d1 := (hbel.cell (p := ⟨B, k * 2 + 1, none⟩) hB).trans c1
      clear c0 c1
      generalize hrk : rows.getD k (0, 0) = r at *
      obtain ⟨ro, rf⟩ := r
      have HR := hide hrk
      clear hrk
      simp only at d0 d1
      by_cases hop : ro = op
      · have hopb : (ro == op) = true := by simpa using hop
        have HO := hide hop
        clear hop
        have HF := hide (foundV_some rows op k ro rf (by rw [unhide HN]; exact hlt) hno (unhide HR) (unhide HO))
        go_wp2
        rw [unhide HF]
        go_ret2
        exact ⟨rfl, (by repeat (first | exact Below.refl _ _ | assumption | refine below_drewN ?_ _ | refine Below.drew ?_ | refine Below.alloc ?_ (by first | exact Nat.le_refl _ | exact Below.size (by assumption) | (simp; done) | (simp; omega)) _ | refine Below.setCell ?_ (by first | exact Nat.le_refl _ | exact Below.size (by assumption) | (simp; done) | (simp; omega)) _ | refine Below.trans ?_ (by assumption)))⟩
      · have hopb : (ro == op) = false := by simpa using hop
        have HO := hide hop
        clear hop
        have hno' : ∀ j, j < k + 1 → (rows.getD j (0, 0)).1 ≠ op := by
          intro j hj
          by_cases e : j = k
          · subst e; rw [unhide HR]; exact unhide HO
          · exact hno j (by omega)
        have HNO := hide hno'
        clear hno'
        go_wp2
        go_roundw
        case rel => exact ⟨k + 1, by omega, by go_num, unhide HNO, (by repeat (first | exact Below.refl _ _ | assumption | refine below_drewN ?_ _ | refine Below.drew ?_ | refine Below.alloc ?_ (by first | exact Nat.le_refl _ | exact Below.size (by assumption) | (simp; done) | (simp; omega)) _ | refine Below.setCell ?_ (by first | exact Nat.le_refl _ | exact Below.size (by assumption) | (simp; done) | (simp; omega)) _ | refine Below.trans ?_ (by assumption)))⟩
        case measure => simp [intOf]; omega
    · have e : k = N := by omega
      have HF := hide (foundV_none rows op (fun j hj => hno j (by rw [unhide HN] at hj; omega)))
      go_wp2
      rw [unhide HF]
      go_ret2
      exact ⟨rfl, (by repeat (first | exact Below.refl _ _ | assumption | refine below_drewN ?_ _ | refine Below.drew ?_ | refine Below.alloc ?_ (by first | exact Nat.le_refl _ | exact Below.size (by assumption) | (simp; done) | (simp; omega)) _ | refine Below.setCell ?_ (by first | exact Nat.le_refl _ | exact Below.size (by assumption) | (simp; done) | (simp; omega)) _ | refine Below.trans ?_ (by assumption)))⟩
def askRowsL : List (Int × Nat) := [(15, 77), (16, 78), (17, 79)]
set_option maxRecDepth 100000 in
set_option maxHeartbeats 800000 in
theorem askRows_any (w : World) (H : Nat) (hH : w.heap.size = H) :
    Calls Tryd.prog 48 #[] w fun e w' => e = .returned (.slice (some ⟨H, 0, none⟩) 3 3) ∧ RowsAt w' H askRowsL ∧ H < w'.heap.size ∧ Below w.heap.size w w' := by
  subst hH
  go_enter Tryd.func48, Tryd.ntmps48
  go_wp2
  go_ret
  refine ⟨rfl, ?_, by simp, (by repeat (first | exact Below.refl _ _ | assumption | refine below_drewN ?_ _ | refine Below.drew ?_ | refine Below.alloc ?_ (by first | exact Nat.le_refl _ | exact Below.size (by assumption) | (simp; done) | (simp; omega)) _ | refine Below.setCell ?_ (by first | exact Nat.le_refl _ | exact Below.size (by assumption) | (simp; done) | (simp; omega)) _ | refine Below.trans ?_ (by assumption)))⟩
  intro i hi
  simp only [askRowsL, List.length_cons, List.length_nil] at hi
  have : i = 0 ∨ i = 1 ∨ i = 2 := by omega
  rcases this with rfl | rfl | rfl <;> simp [askRowsL]
set_option maxRecDepth 100000 in
set_option maxHeartbeats 400000 in
theorem ask1_any (a m b n : Int) (w : World) :
    Calls Tryd.prog 77 #[.agg #[.int .i64 a, .int .i64 m], .agg #[.int .i64 b, .int .i64 n]] w fun e w' => e = .returned (.bool (m == n)) ∧ Below w.heap.size w w' := by
  go_enter Tryd.func77, Tryd.ntmps77
  go_wp2
  go_ret
  exact ⟨rfl, ((Below.refl w.heap.size w).alloc (by simp <;> omega) (.cells #[.int .i64 a, .int .i64 m] 38)).alloc (by simp <;> omega) (.cells #[.int .i64 b, .int .i64 n] 38)⟩
set_option maxRecDepth 100000 in
set_option maxHeartbeats 400000 in
theorem ask2_any (a m b n : Int) (w : World) :
    Calls Tryd.prog 78 #[.agg #[.int .i64 a, .int .i64 m], .agg #[.int .i64 b, .int .i64 n]] w fun e w' => e = .returned (.bool (decide (m < n))) ∧ Below w.heap.size w w' := by
  go_enter Tryd.func78, Tryd.ntmps78
  go_wp2
  go_ret
  exact ⟨rfl, ((Below.refl w.heap.size w).alloc (by simp <;> omega) (.cells #[.int .i64 a, .int .i64 m] 38)).alloc (by simp <;> omega) (.cells #[.int .i64 b, .int .i64 n] 38)⟩
set_option maxRecDepth 100000 in
set_option maxHeartbeats 1000000 in
theorem ask3_any (a m b n : Int) (w : World) :
    Calls Tryd.prog 79 #[.agg #[.int .i64 a, .int .i64 m], .agg #[.int .i64 b, .int .i64 n]] w fun e w' => e = .returned (.bool (decide (sgnV a m < sgnV b n))) ∧ Below w.heap.size w w' := by
  go_enter Tryd.func79, Tryd.ntmps79
  go_wp2
  go_region_held3 (fun w' => w'.cell? ⟨w.heap.size, 0, none⟩ = some (.int .i64 a) ∧ w'.cell? ⟨w.heap.size, 1, none⟩ = some (.int .i64 m) ∧ w'.cell? ⟨w.heap.size + 1, 0, none⟩ = some (.int .i64 b) ∧ w'.cell? ⟨w.heap.size + 1, 1, none⟩ = some (.int .i64 n)) (first | go_keep | exact ⟨p00, p01, p10, p11⟩)
    (first | (go_at_call_of 80 (Value.agg #[.int .i64 a, .int .i64 m]); refine (iVecSigned_any a m _).mono ?_; rintro e wa ⟨rfl, ba⟩; have za := ba.size; have p00 := cell_later ba (a := ⟨w.heap.size, 0, none⟩) (v := .int .i64 a) (by simp [go_sem]); have p01 := cell_later ba (a := ⟨w.heap.size, 1, none⟩) (v := .int .i64 m) (by simp [go_sem]); have p10 := cell_later ba (a := ⟨w.heap.size + 1, 0, none⟩) (v := .int .i64 b) (by simp [go_sem]); have p11 := cell_later ba (a := ⟨w.heap.size + 1, 1, none⟩) (v := .int .i64 n) (by simp [go_sem])) | (go_at_call_of 80 (Value.agg #[.int .i64 b, .int .i64 n]); refine (iVecSigned_any b n _).mono ?_; rintro e wb ⟨rfl, bb⟩; have p00 := cell_later bb (a := ⟨w.heap.size, 0, none⟩) (v := .int .i64 a) p00; have p01 := cell_later bb (a := ⟨w.heap.size, 1, none⟩) (v := .int .i64 m) p01; have p10 := cell_later bb (a := ⟨w.heap.size + 1, 0, none⟩) (v := .int .i64 b) p10; have p11 := cell_later bb (a := ⟨w.heap.size + 1, 1, none⟩) (v := .int .i64 n) p11))
  all_goals go_wp2
  go_ret
  simp at za
  exact ⟨rfl, ((((Below.refl w.heap.size w).alloc (by simp <;> omega) (.cells #[.int .i64 a, .int .i64 m] 38)).alloc (by simp <;> omega) (.cells #[.int .i64 b, .int .i64 n] 38)).drew.trans (ba.mono (by simp <;> omega))).trans (bb.mono (by omega))⟩
set_option maxRecDepth 100000 in
set_option maxHeartbeats 2000000 in
theorem iVecCmp_n1 (op a m b n : Int) (w : World) (hf : foundV askRowsL op = .tuple #[.nilFunc, .bool false]) :
    Calls Tryd.prog 14 #[.int .i64 op, .agg #[.int .i64 a, .int .i64 m], .agg #[.int .i64 b, .int .i64 n]] w fun e w' => e = .returned (.tuple #[.bool false, .bool false]) ∧ Below w.heap.size w w' := by
  have HF := hide hf
  clear hf
  go_enter Tryd.func14, Tryd.ntmps14
  go_wp2_with fail
  refine (askRows_any _ (w.heap.size + 1 + 1) (by simp)).mono ?_
  rintro e w1 ⟨rfl, hr, hz, b1⟩
  have p00 : w1.cell? ⟨w.heap.size, 0, none⟩ = some (.int .i64 a) := cell_later b1 (by simp [go_sem])
  have p01 : w1.cell? ⟨w.heap.size, 1, none⟩ = some (.int .i64 m) := cell_later b1 (by simp [go_sem])
  have p10 : w1.cell? ⟨w.heap.size + 1, 0, none⟩ = some (.int .i64 b) := cell_later b1 (by simp [go_sem])
  have p11 : w1.cell? ⟨w.heap.size + 1, 1, none⟩ = some (.int .i64 n) := cell_later b1 (by simp [go_sem])
  simp only [World.size_alloc] at b1
  go_wp2_with fail
  refine (findAsk_any askRowsL 3 _ op _ rfl hz (by omega) hr).mono ?_
  rintro e w2 ⟨rfl, b2⟩
  have z1 := b1.size
  simp only [World.size_alloc] at z1
  have z2 := b2.size
  replace p00 := cell_later b2 p00
  replace p01 := cell_later b2 p01
  replace p10 := cell_later b2 p10
  replace p11 := cell_later b2 p11
  rw [unhide HF]
  go_wp2
  go_ret2
  have e1 := (((Below.refl w.heap.size w).alloc (by simp <;> omega) (.cells #[.int .i64 a, .int .i64 m] 38)).alloc (by simp <;> omega) (.cells #[.int .i64 b, .int .i64 n] 38)).trans (b1.mono (by omega))
  exact ⟨rfl, e1.trans (b2.mono (by omega))⟩
set_option maxRecDepth 100000 in
set_option maxHeartbeats 2000000 in
theorem iVecCmp_n2 (op a m b n : Int) (w : World) (hf : ∃ k, foundV askRowsL op = .tuple #[.func (.func k) #[] #[], .bool true]) (hp : pairB a m b n = false) :
    Calls Tryd.prog 14 #[.int .i64 op, .agg #[.int .i64 a, .int .i64 m], .agg #[.int .i64 b, .int .i64 n]] w fun e w' => e = .returned (.tuple #[.bool false, .bool false]) ∧ Below w.heap.size w w' := by
  obtain ⟨k, hf⟩ := hf
  have HF := hide hf
  clear hf
  go_enter Tryd.func14, Tryd.ntmps14
  go_wp2_with fail
  refine (askRows_any _ (w.heap.size + 1 + 1) (by simp)).mono ?_
  rintro e w1 ⟨rfl, hr, hz, b1⟩
  have p00 : w1.cell? ⟨w.heap.size, 0, none⟩ = some (.int .i64 a) := cell_later b1 (by simp [go_sem])
  have p01 : w1.cell? ⟨w.heap.size, 1, none⟩ = some (.int .i64 m) := cell_later b1 (by simp [go_sem])
  have p10 : w1.cell? ⟨w.heap.size + 1, 0, none⟩ = some (.int .i64 b) := cell_later b1 (by simp [go_sem])
  have p11 : w1.cell? ⟨w.heap.size + 1, 1, none⟩ = some (.int .i64 n) := cell_later b1 (by simp [go_sem])
  simp only [World.size_alloc] at b1
  go_wp2_with fail
  refine (findAsk_any askRowsL 3 _ op _ rfl hz (by omega) hr).mono ?_
  rintro e w2 ⟨rfl, b2⟩
  have z1 := b1.size
  simp only [World.size_alloc] at z1
  have z2 := b2.size
  replace p00 := cell_later b2 p00
  replace p01 := cell_later b2 p01
  replace p10 := cell_later b2 p10
  replace p11 := cell_later b2 p11
  rw [unhide HF]
  go_wp2_with fail
  refine (vecPair_any _ _ _ _ _).mono ?_
  rintro e w3 ⟨rfl, b3⟩
  have z3 := b3.size
  replace p00 := cell_later b3 p00
  replace p01 := cell_later b3 p01
  replace p10 := cell_later b3 p10
  replace p11 := cell_later b3 p11
  rw [hp]
  go_wp2
  go_ret2
  have e1 := (((Below.refl w.heap.size w).alloc (by simp <;> omega) (.cells #[.int .i64 a, .int .i64 m] 38)).alloc (by simp <;> omega) (.cells #[.int .i64 b, .int .i64 n] 38)).trans (b1.mono (by omega))
  exact ⟨rfl, (e1.trans (b2.mono (by omega))).trans (b3.mono (by omega))⟩
set_option maxRecDepth 100000 in
set_option maxHeartbeats 2000000 in
theorem iVecCmp_15 (a m n : Int) (w : World) (hp : pairB a m a n = true) :
    Calls Tryd.prog 14 #[.int .i64 15, .agg #[.int .i64 a, .int .i64 m], .agg #[.int .i64 a, .int .i64 n]] w fun e w' => e = .returned (.tuple #[.bool (m == n), .bool true]) ∧ Below w.heap.size w w' := by
  have HF := hide (show foundV askRowsL 15 = .tuple #[.func (.func 77) #[] #[], .bool true] from by kernel_rfl)
  go_enter Tryd.func14, Tryd.ntmps14
  go_wp2_with fail
  refine (askRows_any _ (w.heap.size + 1 + 1) (by simp)).mono ?_
  rintro e w1 ⟨rfl, hr, hz, b1⟩
  have p00 : w1.cell? ⟨w.heap.size, 0, none⟩ = some (.int .i64 a) := cell_later b1 (by simp [go_sem])
  have p01 : w1.cell? ⟨w.heap.size, 1, none⟩ = some (.int .i64 m) := cell_later b1 (by simp [go_sem])
  have p10 : w1.cell? ⟨w.heap.size + 1, 0, none⟩ = some (.int .i64 a) := cell_later b1 (by simp [go_sem])
  have p11 : w1.cell? ⟨w.heap.size + 1, 1, none⟩ = some (.int .i64 n) := cell_later b1 (by simp [go_sem])
  simp only [World.size_alloc] at b1
  go_wp2_with fail
  refine (findAsk_any askRowsL 3 _ 15 _ rfl hz (by omega) hr).mono ?_
  rintro e w2 ⟨rfl, b2⟩
  have z1 := b1.size
  simp only [World.size_alloc] at z1
  have z2 := b2.size
  replace p00 := cell_later b2 p00
  replace p01 := cell_later b2 p01
  replace p10 := cell_later b2 p10
  replace p11 := cell_later b2 p11
  rw [unhide HF]
  go_wp2_with fail
  refine (vecPair_any _ _ _ _ _).mono ?_
  rintro e w3 ⟨rfl, b3⟩
  have z3 := b3.size
  replace p00 := cell_later b3 p00
  replace p01 := cell_later b3 p01
  replace p10 := cell_later b3 p10
  replace p11 := cell_later b3 p11
  rw [hp]
  go_wp2_with fail
  refine (ask1_any _ _ _ _ _).mono ?_
  rintro e w4 ⟨rfl, b4⟩
  go_wp2
  go_ret2
  have e1 := (((Below.refl w.heap.size w).alloc (by simp <;> omega) (.cells #[.int .i64 a, .int .i64 m] 38)).alloc (by simp <;> omega) (.cells #[.int .i64 a, .int .i64 n] 38)).trans (b1.mono (by omega))
  exact ⟨rfl, ((e1.trans (b2.mono (by omega))).trans (b3.mono (by omega))).trans (b4.mono (by omega))⟩
set_option maxRecDepth 100000 in
set_option maxHeartbeats 2000000 in
theorem iVecCmp_16 (a m n : Int) (w : World) (hp : pairB a m a n = true) :
    Calls Tryd.prog 14 #[.int .i64 16, .agg #[.int .i64 a, .int .i64 m], .agg #[.int .i64 a, .int .i64 n]] w fun e w' => e = .returned (.tuple #[.bool (decide (m < n)), .bool true]) ∧ Below w.heap.size w w' := by
  have HF := hide (show foundV askRowsL 16 = .tuple #[.func (.func 78) #[] #[], .bool true] from by kernel_rfl)
  go_enter Tryd.func14, Tryd.ntmps14
  go_wp2_with fail
  refine (askRows_any _ (w.heap.size + 1 + 1) (by simp)).mono ?_
  rintro e w1 ⟨rfl, hr, hz, b1⟩
  have p00 : w1.cell? ⟨w.heap.size, 0, none⟩ = some (.int .i64 a) := cell_later b1 (by simp [go_sem])
  have p01 : w1.cell? ⟨w.heap.size, 1, none⟩ = some (.int .i64 m) := cell_later b1 (by simp [go_sem])
  have p10 : w1.cell? ⟨w.heap.size + 1, 0, none⟩ = some (.int .i64 a) := cell_later b1 (by simp [go_sem])
  have p11 : w1.cell? ⟨w.heap.size + 1, 1, none⟩ = some (.int .i64 n) := cell_later b1 (by simp [go_sem])
  simp only [World.size_alloc] at b1
  go_wp2_with fail
  refine (findAsk_any askRowsL 3 _ 16 _ rfl hz (by omega) hr).mono ?_
  rintro e w2 ⟨rfl, b2⟩
  have z1 := b1.size
  simp only [World.size_alloc] at z1
  have z2 := b2.size
  replace p00 := cell_later b2 p00
  replace p01 := cell_later b2 p01
  replace p10 := cell_later b2 p10
  replace p11 := cell_later b2 p11
  rw [unhide HF]
  go_wp2_with fail
  refine (vecPair_any _ _ _ _ _).mono ?_
  rintro e w3 ⟨rfl, b3⟩
  have z3 := b3.size
  replace p00 := cell_later b3 p00
  replace p01 := cell_later b3 p01
  replace p10 := cell_later b3 p10
  replace p11 := cell_later b3 p11
  rw [hp]
  go_wp2_with fail
  refine (ask2_any _ _ _ _ _).mono ?_
  rintro e w4 ⟨rfl, b4⟩
  go_wp2
  go_ret2
  have e1 := (((Below.refl w.heap.size w).alloc (by simp <;> omega) (.cells #[.int .i64 a, .int .i64 m] 38)).alloc (by simp <;> omega) (.cells #[.int .i64 a, .int .i64 n] 38)).trans (b1.mono (by omega))
  exact ⟨rfl, ((e1.trans (b2.mono (by omega))).trans (b3.mono (by omega))).trans (b4.mono (by omega))⟩
set_option maxRecDepth 100000 in
set_option maxHeartbeats 2000000 in
theorem iVecCmp_17 (a m n : Int) (w : World) (hp : pairB a m a n = true) :
    Calls Tryd.prog 14 #[.int .i64 17, .agg #[.int .i64 a, .int .i64 m], .agg #[.int .i64 a, .int .i64 n]] w fun e w' => e = .returned (.tuple #[.bool (decide (sgnV a m < sgnV a n)), .bool true]) ∧ Below w.heap.size w w' := by
  have HF := hide (show foundV askRowsL 17 = .tuple #[.func (.func 79) #[] #[], .bool true] from by kernel_rfl)
  go_enter Tryd.func14, Tryd.ntmps14
  go_wp2_with fail
  refine (askRows_any _ (w.heap.size + 1 + 1) (by simp)).mono ?_
  rintro e w1 ⟨rfl, hr, hz, b1⟩
  have p00 : w1.cell? ⟨w.heap.size, 0, none⟩ = some (.int .i64 a) := cell_later b1 (by simp [go_sem])
  have p01 : w1.cell? ⟨w.heap.size, 1, none⟩ = some (.int .i64 m) := cell_later b1 (by simp [go_sem])
  have p10 : w1.cell? ⟨w.heap.size + 1, 0, none⟩ = some (.int .i64 a) := cell_later b1 (by simp [go_sem])
  have p11 : w1.cell? ⟨w.heap.size + 1, 1, none⟩ = some (.int .i64 n) := cell_later b1 (by simp [go_sem])
  simp only [World.size_alloc] at b1
  go_wp2_with fail
  refine (findAsk_any askRowsL 3 _ 17 _ rfl hz (by omega) hr).mono ?_
  rintro e w2 ⟨rfl, b2⟩
  have z1 := b1.size
  simp only [World.size_alloc] at z1
  have z2 := b2.size
  replace p00 := cell_later b2 p00
  replace p01 := cell_later b2 p01
  replace p10 := cell_later b2 p10
  replace p11 := cell_later b2 p11
  rw [unhide HF]
  go_wp2_with fail
  refine (vecPair_any _ _ _ _ _).mono ?_
  rintro e w3 ⟨rfl, b3⟩
  have z3 := b3.size
  replace p00 := cell_later b3 p00
  replace p01 := cell_later b3 p01
  replace p10 := cell_later b3 p10
  replace p11 := cell_later b3 p11
  rw [hp]
  go_wp2_with fail
  refine (ask3_any _ _ _ _ _).mono ?_
  rintro e w4 ⟨rfl, b4⟩
  go_wp2
  go_ret2
  have e1 := (((Below.refl w.heap.size w).alloc (by simp <;> omega) (.cells #[.int .i64 a, .int .i64 m] 38)).alloc (by simp <;> omega) (.cells #[.int .i64 a, .int .i64 n] 38)).trans (b1.mono (by omega))
  exact ⟨rfl, ((e1.trans (b2.mono (by omega))).trans (b3.mono (by omega))).trans (b4.mono (by omega))⟩
theorem foundAsk (op : Int) (h : op < 15 ∨ 17 < op) : foundV askRowsL op = .tuple #[.nilFunc, .bool false] :=
  foundV_none _ _ (fun j hj => by
    simp only [askRowsL, List.length_cons, List.length_nil] at hj
    have : j = 0 ∨ j = 1 ∨ j = 2 := by omega
    rcases this with rfl | rfl | rfl <;> simp [askRowsL] <;> omega)
theorem foundAsk_some (op : Int) (h3 : 15 ≤ op) (h13 : op ≤ 17) : ∃ k, foundV askRowsL op = .tuple #[.func (.func k) #[] #[], .bool true] := by
  have : op = 15 ∨ op = 16 ∨ op = 17 := by omega
  rcases this with rfl | rfl | rfl
  · exact ⟨77, by kernel_rfl⟩
  · exact ⟨78, by kernel_rfl⟩
  · exact ⟨79, by kernel_rfl⟩
theorem iVecCmp_any (op a m b n : Int) (w : World) :
    Calls Tryd.prog 14 #[.int .i64 op, .agg #[.int .i64 a, .int .i64 m], .agg #[.int .i64 b, .int .i64 n]] w fun e w' => e = .returned (.tuple #[.bool (cmpR op a m b n), .bool (cmpT op a m b n)]) ∧ Below w.heap.size w w' := by
  unfold cmpR cmpT
  by_cases h : 15 ≤ op ∧ op ≤ 17
  · by_cases hp : pairB a m b n = true
    · rw [if_pos ⟨hp, h⟩, if_pos ⟨hp, h⟩]
      obtain ⟨hx, hy, rfl⟩ := pair_of hp
      have : op = 15 ∨ op = 16 ∨ op = 17 := by omega
      rcases this with rfl | rfl | rfl
      · simpa [cmpB] using iVecCmp_15 a m n w hp
      · simpa [cmpB] using iVecCmp_16 a m n w hp
      · simpa [cmpB, sgnV, hx, hy] using iVecCmp_17 a m n w hp
    · rw [if_neg (fun k => hp k.1), if_neg (fun k => hp k.1)]; exact iVecCmp_n2 op a m b n w (foundAsk_some op h.1 h.2) (by simpa using hp)
  · rw [if_neg (fun k => h k.2), if_neg (fun k => h k.2)]; exact iVecCmp_n1 op a m b n w (foundAsk op (by omega))
end Go.Proofs.YtmpiiilkaadhfaaDoor
