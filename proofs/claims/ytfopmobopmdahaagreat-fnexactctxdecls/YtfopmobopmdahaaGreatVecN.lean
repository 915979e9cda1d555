/- What VecCmp of the model and of the program return: whether two numbers of as many bits are the same, less, or less with their signs, and true; false and false of another operation, of numbers that are not right or have not as many bits. -/
import Derived.Test.YtfopmobopmdahaaGreatVecF
namespace Go.Proofs.YtfopmobopmdahaaGreat
open Go.ChangeShapes Go.WideShapes Go.ChangeAt Go.RowKit Go.Joins
set_option linter.unusedVariables false
attribute [local go_sem ↓] Go.wp_at_zero Go.wp_at_succ

def cmpB (op a m n : Int) : Bool := if op = 15 then m == n else if op = 16 then decide (m < n) else decide (sgn a m < sgn a n)
def cmpR (op a m b n : Int) : Bool := if pairB a m b n = true ∧ 15 ≤ op ∧ op ≤ 17 then cmpB op a m n else false
def cmpT (op a m b n : Int) : Bool := if pairB a m b n = true ∧ 15 ≤ op ∧ op ≤ 17 then true else false
theorem ret_bb {a b c d : Bool} (h : a = b) (k : c = d) : Ending.returned (.tuple #[.bool a, .bool c]) = .returned (.tuple #[.bool b, .bool d]) := by rw [h, k]
theorem pair_of {a m b n : Int} (h : pairB a m b n = true) : okB a m = true ∧ okB b n = true ∧ a = b := by
  simp [pairB] at h; exact ⟨h.1.1, h.1.2, h.2⟩

set_option maxRecDepth 100000 in
set_option maxHeartbeats 800000 in
theorem findAsk_any (rows : List (Int × Nat)) (N B : Nat) (op : Int) (w : World) (hN : rows.length = N) (hB : B < w.heap.size) (hn : N ≤ 20) (hr : RowsAt w B rows) :
    Calls Tryz.prog 157 #[.slice (some ⟨B, 0, none⟩) N N, .int .i64 op] w fun e w' =>
      e = .returned (foundV rows op) ∧ Below w.heap.size w w' := by
  have HN := hide hN
  clear hN
  go_enter Tryz.func157, Tryz.ntmps157
  go_wp2
  go_loopw [10] (fun i wr => ∃ k : Nat, k ≤ N ∧ i = .int .i64 k ∧ (∀ j, j < k → (rows.getD j (0, 0)).1 ≠ op) ∧ Below w.heap.size w wr) (fun i _ => N - (intOf i).toNat)
  case atStart => exact ⟨0, Nat.zero_le _, rfl, fun j h => by omega, Below.refl _ _⟩
  case round =>
    obtain ⟨k, hk, rfl, hno, hbel⟩ := hrel
    by_cases hlt : k < N
    · obtain ⟨c0, c1⟩ := hr k (by rw [unhide HN]; exact hlt)
      have d0 := (hbel.cell (p := ⟨B, k * 2, none⟩) hB).trans c0
      have d1 := (hbel.cell (p := ⟨B, k * 2 + 1, none⟩) hB).trans c1
      clear c0 c1
      generalize hrk : rows.getD k (0, 0) = r at *
      obtain ⟨ro, rf⟩ := r
      have HR := hide hrk
      clear hrk
      simp only at d0 d1
      by_cases hop : ro = op
      · have hopb : (ro == op) = true := by simpa using hop
        have HO := hide hop
        clear hop
        have HF := hide (foundV_some rows op k ro rf (by rw [unhide HN]; exact hlt) hno (unhide HR) (unhide HO))
        go_wp2
        rw [unhide HF]
        go_ret2
        exact ⟨rfl, (by repeat (first | exact Below.refl _ _ | assumption | refine below_drewN ?_ _ | refine Below.drew ?_ | refine Below.alloc ?_ (by first | exact Nat.le_refl _ | exact Below.size (by assumption) | (simp; done) | (simp; omega)) _ | refine Below.setCell ?_ (by first | exact Nat.le_refl _ | exact Below.size (by assumption) | (simp; done) | (simp; omega)) _ | refine Below.trans ?_ (by assumption)))⟩
      · have hopb : (ro == op) = false := by simpa using hop
        have HO := hide hop
        clear hop
        have hno' : ∀ j, j < k + 1 → (rows.getD j (0, 0)).1 ≠ op := by
          intro j hj
          by_cases e : j = k
          · subst e; rw [unhide HR]; exact unhide HO
          · exact hno j (by omega)
        have HNO := hide hno'
        clear hno'
        go_wp2
        go_roundw
        case rel => exact ⟨k + 1, by omega, by go_num, unhide HNO, (by repeat (first | exact Below.refl _ _ | assumption | refine below_drewN ?_ _ | refine Below.drew ?_ | refine Below.alloc ?_ (by first | exact Nat.le_refl _ | exact Below.size (by assumption) | (simp; done) | (simp; omega)) _ | refine Below.setCell ?_ (by first | exact Nat.le_refl _ | exact Below.size (by assumption) | (simp; done) | (simp; omega)) _ | refine Below.trans ?_ (by assumption)))⟩
        case measure => simp [intOf]; omega
    · have e : k = N := by omega
      have HF := hide (foundV_none rows op (fun j hj => hno j (by rw [unhide HN] at hj; omega)))
      go_wp2
      rw [unhide HF]
      go_ret2
      exact ⟨rfl, (by repeat (first | exact Below.refl _ _ | assumption | refine below_drewN ?_ _ | refine Below.drew ?_ | refine Below.alloc ?_ (by first | exact Nat.le_refl _ | exact Below.size (by assumption) | (simp; done) | (simp; omega)) _ | refine Below.setCell ?_ (by first | exact Nat.le_refl _ | exact Below.size (by assumption) | (simp; done) | (simp; omega)) _ | refine Below.trans ?_ (by assumption)))⟩
def askRowsL : List (Int × Nat) := [(15, 159), (16, 160), (17, 161)]
set_option maxRecDepth 100000 in
set_option maxHeartbeats 800000 in
theorem askRows_any (w : World) (H : Nat) (hH : w.heap.size = H) :
    Calls Tryz.prog 158 #[] w fun e w' => e = .returned (.slice (some ⟨H, 0, none⟩) 3 3) ∧ RowsAt w' H askRowsL ∧ H < w'.heap.size ∧ Below w.heap.size w w' := by
  subst hH
  go_enter Tryz.func158, Tryz.ntmps158
  go_wp2
  go_ret
  refine ⟨rfl, ?_, by simp, (by repeat (first | exact Below.refl _ _ | assumption | refine below_drewN ?_ _ | refine Below.drew ?_ | refine Below.alloc ?_ (by first | exact Nat.le_refl _ | exact Below.size (by assumption) | (simp; done) | (simp; omega)) _ | refine Below.setCell ?_ (by first | exact Nat.le_refl _ | exact Below.size (by assumption) | (simp; done) | (simp; omega)) _ | refine Below.trans ?_ (by assumption)))⟩
  intro i hi
  simp only [askRowsL, List.length_cons, List.length_nil] at hi
  have : i = 0 ∨ i = 1 ∨ i = 2 := by omega
  rcases this with rfl | rfl | rfl <;> simp [askRowsL]
set_option maxRecDepth 100000 in
set_option maxHeartbeats 400000 in
theorem ask1_any (a m b n : Int) (w : World) :
    Calls Tryz.prog 159 #[.agg #[.int .i64 a, .int .i64 m], .agg #[.int .i64 b, .int .i64 n]] w fun e w' => e = .returned (.bool (m == n)) ∧ Below w.heap.size w w' := by
  go_enter Tryz.func159, Tryz.ntmps159
  go_wp2
  go_ret
  exact ⟨rfl, ((Below.refl w.heap.size w).alloc (by simp <;> omega) (.cells #[.int .i64 a, .int .i64 m] 107)).alloc (by simp <;> omega) (.cells #[.int .i64 b, .int .i64 n] 107)⟩
set_option maxRecDepth 100000 in
set_option maxHeartbeats 400000 in
theorem ask2_any (a m b n : Int) (w : World) :
    Calls Tryz.prog 160 #[.agg #[.int .i64 a, .int .i64 m], .agg #[.int .i64 b, .int .i64 n]] w fun e w' => e = .returned (.bool (decide (m < n))) ∧ Below w.heap.size w w' := by
  go_enter Tryz.func160, Tryz.ntmps160
  go_wp2
  go_ret
  exact ⟨rfl, ((Below.refl w.heap.size w).alloc (by simp <;> omega) (.cells #[.int .i64 a, .int .i64 m] 107)).alloc (by simp <;> omega) (.cells #[.int .i64 b, .int .i64 n] 107)⟩
set_option maxRecDepth 100000 in
set_option maxHeartbeats 1000000 in
theorem ask3_any (a m b n : Int) (w : World) :
    Calls Tryz.prog 161 #[.agg #[.int .i64 a, .int .i64 m], .agg #[.int .i64 b, .int .i64 n]] w fun e w' => e = .returned (.bool (decide (sgnV a m < sgnV b n))) ∧ Below w.heap.size w w' := by
  go_enter Tryz.func161, Tryz.ntmps161
  go_wp2
  go_region_held3 (fun w' => w'.cell? ⟨w.heap.size, 0, none⟩ = some (.int .i64 a) ∧ w'.cell? ⟨w.heap.size, 1, none⟩ = some (.int .i64 m) ∧ w'.cell? ⟨w.heap.size + 1, 0, none⟩ = some (.int .i64 b) ∧ w'.cell? ⟨w.heap.size + 1, 1, none⟩ = some (.int .i64 n)) (first | go_keep | exact ⟨p00, p01, p10, p11⟩)
    (first | (go_at_call_of 162 (Value.agg #[.int .i64 a, .int .i64 m]); refine (iVecSigned_any a m _).mono ?_; rintro e wa ⟨rfl, ba⟩; have za := ba.size; have p00 := cell_later ba (a := ⟨w.heap.size, 0, none⟩) (v := .int .i64 a) (by simp [go_sem]); have p01 := cell_later ba (a := ⟨w.heap.size, 1, none⟩) (v := .int .i64 m) (by simp [go_sem]); have p10 := cell_later ba (a := ⟨w.heap.size + 1, 0, none⟩) (v := .int .i64 b) (by simp [go_sem]); have p11 := cell_later ba (a := ⟨w.heap.size + 1, 1, none⟩) (v := .int .i64 n) (by simp [go_sem])) | (go_at_call_of 162 (Value.agg #[.int .i64 b, .int .i64 n]); refine (iVecSigned_any b n _).mono ?_; rintro e wb ⟨rfl, bb⟩; have p00 := cell_later bb (a := ⟨w.heap.size, 0, none⟩) (v := .int .i64 a) p00; have p01 := cell_later bb (a := ⟨w.heap.size, 1, none⟩) (v := .int .i64 m) p01; have p10 := cell_later bb (a := ⟨w.heap.size + 1, 0, none⟩) (v := .int .i64 b) p10; have p11 := cell_later bb (a := ⟨w.heap.size + 1, 1, none⟩) (v := .int .i64 n) p11))
  all_goals go_wp2
  go_ret
  simp at za
  exact ⟨rfl, ((((Below.refl w.heap.size w).alloc (by simp <;> omega) (.cells #[.int .i64 a, .int .i64 m] 107)).alloc (by simp <;> omega) (.cells #[.int .i64 b, .int .i64 n] 107)).drew.trans (ba.mono (by simp <;> omega))).trans (bb.mono (by omega))⟩
set_option maxRecDepth 100000 in
set_option maxHeartbeats 2000000 in
theorem iVecCmp_n1 (op a m b n : Int) (w : World) (hf : foundV askRowsL op = .tuple #[.nilFunc, .bool false]) :
    Calls Tryz.prog 156 #[.int .i64 op, .agg #[.int .i64 a, .int .i64 m], .agg #[.int .i64 b, .int .i64 n]] w fun e w' => e = .returned (.tuple #[.bool false, .bool false]) ∧ Below w.heap.size w w' := by
  have HF := hide hf
  clear hf
  go_enter Tryz.func156, Tryz.ntmps156
  go_wp2_with fail
  refine (askRows_any _ (w.heap.size + 1 + 1) (by simp)).mono ?_
  rintro e w1 ⟨rfl, hr, hz, b1⟩
  have p00 : w1.cell? ⟨w.heap.size, 0, none⟩ = some (.int .i64 a) := cell_later b1 (by simp [go_sem])
  have p01 : w1.cell? ⟨w.heap.size, 1, none⟩ = some (.int .i64 m) := cell_later b1 (by simp [go_sem])
  have p10 : w1.cell? ⟨w.heap.size + 1, 0, none⟩ = some (.int .i64 b) := cell_later b1 (by simp [go_sem])
  have p11 : w1.cell? ⟨w.heap.size + 1, 1, none⟩ = some (.int .i64 n) := cell_later b1 (by simp [go_sem])
  simp only [World.size_alloc] at b1
  go_wp2_with fail
  refine (findAsk_any askRowsL 3 _ op _ rfl hz (by omega) hr).mono ?_
  rintro e w2 ⟨rfl, b2⟩
  have z1 := b1.size
  simp only [World.size_alloc] at z1
  have z2 := b2.size
  replace p00 := cell_later b2 p00
  replace p01 := cell_later b2 p01
  replace p10 := cell_later b2 p10
  replace p11 := cell_later b2 p11
  rw [unhide HF]
  go_wp2
  go_ret2
  have e1 := (((Below.refl w.heap.size w).alloc (by simp <;> omega) (.cells #[.int .i64 a, .int .i64 m] 107)).alloc (by simp <;> omega) (.cells #[.int .i64 b, .int .i64 n] 107)).trans (b1.mono (by omega))
  exact ⟨rfl, e1.trans (b2.mono (by omega))⟩
set_option maxRecDepth 100000 in
set_option maxHeartbeats 2000000 in
theorem iVecCmp_n2 (op a m b n : Int) (w : World) (hf : ∃ k, foundV askRowsL op = .tuple #[.func (.func k) #[] #[], .bool true]) (hp : pairB a m b n = false) :
    Calls Tryz.prog 156 #[.int .i64 op, .agg #[.int .i64 a, .int .i64 m], .agg #[.int .i64 b, .int .i64 n]] w fun e w' => e = .returned (.tuple #[.bool false, .bool false]) ∧ Below w.heap.size w w' := by
  obtain ⟨k, hf⟩ := hf
  have HF := hide hf
  clear hf
  go_enter Tryz.func156, Tryz.ntmps156
  go_wp2_with fail
  refine (askRows_any _ (w.heap.size + 1 + 1) (by simp)).mono ?_
  rintro e w1 ⟨rfl, hr, hz, b1⟩
  have p00 : w1.cell? ⟨w.heap.size, 0, none⟩ = some (.int .i64 a) := cell_later b1 (by simp [go_sem])
  have p01 : w1.cell? ⟨w.heap.size, 1, none⟩ = some (.int .i64 m) := cell_later b1 (by simp [go_sem])
  have p10 : w1.cell? ⟨w.heap.size + 1, 0, none⟩ = some (.int .i64 b) := cell_later b1 (by simp [go_sem])
  have p11 : w1.cell? ⟨w.heap.size + 1, 1, none⟩ = some (.int .i64 n) := cell_later b1 (by simp [go_sem])
  simp only [World.size_alloc] at b1
  go_wp2_with fail
  refine (findAsk_any askRowsL 3 _ op _ rfl hz (by omega) hr).mono ?_
  rintro e w2 ⟨rfl, b2⟩
  have z1 := b1.size
  simp only [World.size_alloc] at z1
  have z2 := b2.size
  replace p00 := cell_later b2 p00
  replace p01 := cell_later b2 p01
  replace p10 := cell_later b2 p10
  replace p11 := cell_later b2 p11
  rw [unhide HF]
  go_wp2_with fail
  refine (vecPair_any _ _ _ _ _).mono ?_
  rintro e w3 ⟨rfl, b3⟩
  have z3 := b3.size
  replace p00 := cell_later b3 p00
  replace p01 := cell_later b3 p01
  replace p10 := cell_later b3 p10
  replace p11 := cell_later b3 p11
  rw [hp]
  go_wp2
  go_ret2
  have e1 := (((Below.refl w.heap.size w).alloc (by simp <;> omega) (.cells #[.int .i64 a, .int .i64 m] 107)).alloc (by simp <;> omega) (.cells #[.int .i64 b, .int .i64 n] 107)).trans (b1.mono (by omega))
  exact ⟨rfl, (e1.trans (b2.mono (by omega))).trans (b3.mono (by omega))⟩
set_option maxRecDepth 100000 in
set_option maxHeartbeats 2000000 in
theorem iVecCmp_15 (a m n : Int) (w : World) (hp : pairB a m a n = true) :
    Calls Tryz.prog 156 #[.int .i64 15, .agg #[.int .i64 a, .int .i64 m], .agg #[.int .i64 a, .int .i64 n]] w fun e w' => e = .returned (.tuple #[.bool (m == n), .bool true]) ∧ Below w.heap.size w w' := by
  have HF := hide (show foundV askRowsL 15 = .tuple #[.func (.func 159) #[] #[], .bool true] from by kernel_rfl)
  go_enter Tryz.func156, Tryz.ntmps156
  go_wp2_with fail
  refine (askRows_any _ (w.heap.size + 1 + 1) (by simp)).mono ?_
  rintro e w1 ⟨rfl, hr, hz, b1⟩
  have p00 : w1.cell? ⟨w.heap.size, 0, none⟩ = some (.int .i64 a) := cell_later b1 (by simp [go_sem])
  have p01 : w1.cell? ⟨w.heap.size, 1, none⟩ = some (.int .i64 m) := cell_later b1 (by simp [go_sem])
  have p10 : w1.cell? ⟨w.heap.size + 1, 0, none⟩ = some (.int .i64 a) := cell_later b1 (by simp [go_sem])
  have p11 : w1.cell? ⟨w.heap.size + 1, 1, none⟩ = some (.int .i64 n) := cell_later b1 (by simp [go_sem])
  simp only [World.size_alloc] at b1
  go_wp2_with fail
  refine (findAsk_any askRowsL 3 _ 15 _ rfl hz (by omega) hr).mono ?_
  rintro e w2 ⟨rfl, b2⟩
  have z1 := b1.size
  simp only [World.size_alloc] at z1
  have z2 := b2.size
  replace p00 := cell_later b2 p00
  replace p01 := cell_later b2 p01
  replace p10 := cell_later b2 p10
  replace p11 := cell_later b2 p11
  rw [unhide HF]
  go_wp2_with fail
  refine (vecPair_any _ _ _ _ _).mono ?_
  rintro e w3 ⟨rfl, b3⟩
  have z3 := b3.size
  replace p00 := cell_later b3 p00
  replace p01 := cell_later b3 p01
  replace p10 := cell_later b3 p10
  replace p11 := cell_later b3 p11
  rw [hp]
  go_wp2_with fail
  refine (ask1_any _ _ _ _ _).mono ?_
  rintro e w4 ⟨rfl, b4⟩
  go_wp2
  go_ret2
  have e1 := (((Below.refl w.heap.size w).alloc (by simp <;> omega) (.cells #[.int .i64 a, .int .i64 m] 107)).alloc (by simp <;> omega) (.cells #[.int .i64 a, .int .i64 n] 107)).trans (b1.mono (by omega))
  exact ⟨rfl, ((e1.trans (b2.mono (by omega))).trans (b3.mono (by omega))).trans (b4.mono (by omega))⟩
set_option maxRecDepth 100000 in
set_option maxHeartbeats 2000000 in
theorem iVecCmp_16 (a m n : Int) (w : World) (hp : pairB a m a n = true) :
    Calls Tryz.prog 156 #[.int .i64 16, .agg #[.int .i64 a, .int .i64 m], .agg #[.int .i64 a, .int .i64 n]] w fun e w' => e = .returned (.tuple #[.bool (decide (m < n)), .bool true]) ∧ Below w.heap.size w w' := by
  have HF := hide (show foundV askRowsL 16 = .tuple #[.func (.func 160) #[] #[], .bool true] from by kernel_rfl)
  go_enter Tryz.func156, Tryz.ntmps156
  go_wp2_with fail
  refine (askRows_any _ (w.heap.size + 1 + 1) (by simp)).mono ?_
  rintro e w1 ⟨rfl, hr, hz, b1⟩
  have p00 : w1.cell? ⟨w.heap.size, 0, none⟩ = some (.int .i64 a) := cell_later b1 (by simp [go_sem])
  have p01 : w1.cell? ⟨w.heap.size, 1, none⟩ = some (.int .i64 m) := cell_later b1 (by simp [go_sem])
  have p10 : w1.cell? ⟨w.heap.size + 1, 0, none⟩ = some (.int .i64 a) := cell_later b1 (by simp [go_sem])
  have p11 : w1.cell? ⟨w.heap.size + 1, 1, none⟩ = some (.int .i64 n) := cell_later b1 (by simp [go_sem])
  simp only [World.size_alloc] at b1
  go_wp2_with fail
  refine (findAsk_any askRowsL 3 _ 16 _ rfl hz (by omega) hr).mono ?_
  rintro e w2 ⟨rfl, b2⟩
  have z1 := b1.size
  simp only [World.size_alloc] at z1
  have z2 := b2.size
  replace p00 := cell_later b2 p00
  replace p01 := cell_later b2 p01
  replace p10 := cell_later b2 p10
  replace p11 := cell_later b2 p11
  rw [unhide HF]
  go_wp2_with fail
  refine (vecPair_any _ _ _ _ _).mono ?_
  rintro e w3 ⟨rfl, b3⟩
  have z3 := b3.size
  replace p00 := cell_later b3 p00
  replace p01 := cell_later b3 p01
  replace p10 := cell_later b3 p10
  replace p11 := cell_later b3 p11
  rw [hp]
  go_wp2_with fail
  refine (ask2_any _ _ _ _ _).mono ?_
  rintro e w4 ⟨rfl, b4⟩
  go_wp2
  go_ret2
  have e1 := (((Below.refl w.heap.size w).alloc (by simp <;> omega) (.cells #[.int .i64 a, .int .i64 m] 107)).alloc (by simp <;> omega) (.cells #[.int .i64 a, .int .i64 n] 107)).trans (b1.mono (by omega))
  exact ⟨rfl, ((e1.trans (b2.mono (by omega))).trans (b3.mono (by omega))).trans (b4.mono (by omega))⟩
set_option maxRecDepth 100000 in
set_option maxHeartbeats 2000000 in
theorem iVecCmp_17 (a m n : Int) (w : World) (hp : pairB a m a n = true) :
    Calls Tryz.prog 156 #[.int .i64 17, .agg #[.int .i64 a, .int .i64 m], .agg #[.int .i64 a, .int .i64 n]] w fun e w' => e = .returned (.tuple #[.bool (decide (sgnV a m < sgnV a n)), .bool true]) ∧ Below w.heap.size w w' := by
  have HF := hide (show foundV askRowsL 17 = .tuple #[.func (.func 161) #[] #[], .bool true] from by kernel_rfl)
  go_enter Tryz.func156, Tryz.ntmps156
  go_wp2_with fail
  refine (askRows_any _ (w.heap.size + 1 + 1) (by simp)).mono ?_
  rintro e w1 ⟨rfl, hr, hz, b1⟩
  have p00 : w1.cell? ⟨w.heap.size, 0, none⟩ = some (.int .i64 a) := cell_later b1 (by simp [go_sem])
  have p01 : w1.cell? ⟨w.heap.size, 1, none⟩ = some (.int .i64 m) := cell_later b1 (by simp [go_sem])
  have p10 : w1.cell? ⟨w.heap.size + 1, 0, none⟩ = some (.int .i64 a) := cell_later b1 (by simp [go_sem])
  have p11 : w1.cell? ⟨w.heap.size + 1, 1, none⟩ = some (.int .i64 n) := cell_later b1 (by simp [go_sem])
  simp only [World.size_alloc] at b1
  go_wp2_with fail
  refine (findAsk_any askRowsL 3 _ 17 _ rfl hz (by omega) hr).mono ?_
  rintro e w2 ⟨rfl, b2⟩
  have z1 := b1.size
  simp only [World.size_alloc] at z1
  have z2 := b2.size
  replace p00 := cell_later b2 p00
  replace p01 := cell_later b2 p01
  replace p10 := cell_later b2 p10
  replace p11 := cell_later b2 p11
  rw [unhide HF]
  go_wp2_with fail
  refine (vecPair_any _ _ _ _ _).mono ?_
  rintro e w3 ⟨rfl, b3⟩
  have z3 := b3.size
  replace p00 := cell_later b3 p00
  replace p01 := cell_later b3 p01
  replace p10 := cell_later b3 p10
  replace p11 := cell_later b3 p11
  rw [hp]
  go_wp2_with fail
  refine (ask3_any _ _ _ _ _).mono ?_
  rintro e w4 ⟨rfl, b4⟩
  go_wp2
  go_ret2
  have e1 := (((Below.refl w.heap.size w).alloc (by simp <;> omega) (.cells #[.int .i64 a, .int .i64 m] 107)).alloc (by simp <;> omega) (.cells #[.int .i64 a, .int .i64 n] 107)).trans (b1.mono (by omega))
  exact ⟨rfl, ((e1.trans (b2.mono (by omega))).trans (b3.mono (by omega))).trans (b4.mono (by omega))⟩
theorem foundAsk (op : Int) (h : op < 15 ∨ 17 < op) : foundV askRowsL op = .tuple #[.nilFunc, .bool false] :=
  foundV_none _ _ (fun j hj => by
    simp only [askRowsL, List.length_cons, List.length_nil] at hj
    have : j = 0 ∨ j = 1 ∨ j = 2 := by omega
    rcases this with rfl | rfl | rfl <;> simp [askRowsL] <;> omega)
theorem foundAsk_some (op : Int) (h3 : 15 ≤ op) (h13 : op ≤ 17) : ∃ k, foundV askRowsL op = .tuple #[.func (.func k) #[] #[], .bool true] := by
  have : op = 15 ∨ op = 16 ∨ op = 17 := by omega
  rcases this with rfl | rfl | rfl
  · exact ⟨159, by kernel_rfl⟩
  · exact ⟨160, by kernel_rfl⟩
  · exact ⟨161, by kernel_rfl⟩
theorem iVecCmp_any (op a m b n : Int) (w : World) :
    Calls Tryz.prog 156 #[.int .i64 op, .agg #[.int .i64 a, .int .i64 m], .agg #[.int .i64 b, .int .i64 n]] w fun e w' => e = .returned (.tuple #[.bool (cmpR op a m b n), .bool (cmpT op a m b n)]) ∧ Below w.heap.size w w' := by
  unfold cmpR cmpT
  by_cases h : 15 ≤ op ∧ op ≤ 17
  · by_cases hp : pairB a m b n = true
    · rw [if_pos ⟨hp, h⟩, if_pos ⟨hp, h⟩]
      obtain ⟨hx, hy, rfl⟩ := pair_of hp
      have : op = 15 ∨ op = 16 ∨ op = 17 := by omega
      rcases this with rfl | rfl | rfl
      · simpa [cmpB] using iVecCmp_15 a m n w hp
      · simpa [cmpB] using iVecCmp_16 a m n w hp
      · simpa [cmpB, sgnV, hx, hy] using iVecCmp_17 a m n w hp
    · rw [if_neg (fun k => hp k.1), if_neg (fun k => hp k.1)]; exact iVecCmp_n2 op a m b n w (foundAsk_some op h.1 h.2) (by simpa using hp)
  · rw [if_neg (fun k => h k.2), if_neg (fun k => h k.2)]; exact iVecCmp_n1 op a m b n w (foundAsk op (by omega))
end Go.Proofs.YtfopmobopmdahaaGreat
