/- The number that marks say, of the model and of the program. -/
import Derived.Test.YtlecioaglhlmiaaNltA
namespace Go.Proofs.Ytlecioaglhlmiaa
open Go.ChangeShapes Go.WideShapes Go.ChangeAt Go.RowKit Go.Joins
set_option linter.unusedVariables false

def b01 (b : Bool) : Int := if b then 1 else 0
/-- The number of so many bits from a place on. -/
def upI (f : Nat → Bool) : Nat → Nat → Int
  | _, 0 => 0
  | s, m + 1 => upI f (s + 1) m * 2 + b01 (f s)
theorem upI_last (f : Nat → Bool) (m : Nat) : ∀ s, upI f s (m + 1) = upI f s m + b01 (f (s + m)) * 2 ^ m := by
  induction m with
  | zero => intro s; simp [upI]
  | succ m ih =>
    intro s
    have e : upI f s (m + 1 + 1) = upI f (s + 1) (m + 1) * 2 + b01 (f s) := rfl
    have e' : upI f s (m + 1) = upI f (s + 1) m * 2 + b01 (f s) := rfl
    rw [e, ih, e', show s + 1 + m = s + (m + 1) by omega, Int.pow_succ]
    generalize b01 (f (s + (m + 1))) = x
    generalize (2 : Int) ^ m = y
    rw [Int.add_mul, Int.mul_assoc, ← Int.mul_assoc x y 2]
    omega
theorem b01_bd (b : Bool) : 0 ≤ b01 b ∧ b01 b ≤ 1 := by cases b <;> decide
theorem upI_bd (f : Nat → Bool) (m : Nat) : ∀ s, 0 ≤ upI f s m ∧ upI f s m < 2 ^ m := by
  induction m with
  | zero => intro s; simp [upI]
  | succ m ih =>
    intro s
    have h := ih (s + 1)
    have hb := b01_bd (f s)
    show 0 ≤ upI f (s + 1) m * 2 + b01 (f s) ∧ upI f (s + 1) m * 2 + b01 (f s) < _
    rw [Int.pow_succ]
    omega
theorem upI_small {f : Nat → Bool} {s m : Nat} (h : m ≤ 4) : 0 ≤ upI f s m ∧ upI f s m ≤ 16 := by
  have h1 := upI_bd f m s
  have : m = 0 ∨ m = 1 ∨ m = 2 ∨ m = 3 ∨ m = 4 := by omega
  rcases this with rfl | rfl | rfl | rfl | rfl <;> (simp at h1 ⊢ <;> omega)
def bvI (l : Nat) (V : Nat → Int) (n : Nat) (B : Nat → Bool) : Int := if l ≤ 4 then upI (fun i => metB (V i) n B) 0 l else 0
theorem bvI_yes {l : Nat} {V : Nat → Int} {n : Nat} {B : Nat → Bool} (h : l ≤ 4) : bvI l V n B = upI (fun i => metB (V i) n B) 0 l := if_pos h
theorem bvI_no {l : Nat} {V : Nat → Int} {n : Nat} {B : Nat → Bool} (h : ¬ l ≤ 4) : bvI l V n B = 0 := if_neg h
set_option maxHeartbeats 2000000 in
theorem sBitsVal_any (a : Option Addr) (l cap : Nat) (V : Nat → Int) (c : Option Addr) (n cap' : Nat) (B : Nat → Bool) (w : World) (hd : IntsAt w a l V) (hl : l ≤ 1048576) (hW : ∀ i, i < l → W64 (V i)) (he : BlsAt w c n B) (hn : n ≤ 1048576) :
    Calls Try.prog 5 #[.slice c n cap', .slice a l cap] w fun e w' => e = .returned (.int .i64 (bvI l V n B)) ∧ w' = w := by
  by_cases h4 : l ≤ 4
  · rw [bvI_yes h4]
    have HD := hide hd
    have HE := hide he
    have HW := hide hW
    clear hd he hW
    generalize hf : (fun i => metB (V i) n B) = f
    have HF : Hid (∀ i, metB (V i) n B = f i) := fun i => by rw [← hf]
    clear hf
    go_enter Try.func5, Try.ntmps5
    go_wp2
    go_loopw [6, 5] (fun i s wr => ∃ r : Nat, r ≤ l ∧ i = .int .i64 ((l : Int) - 1 - r) ∧ s = .int .i64 (upI f (l - r) r) ∧ wr = w) (fun i _ _ => ((intOf i) + 1).toNat)
    case atStart => exact ⟨0, by omega, by simp, by simp [upI], rfl⟩
    case round =>
      obtain ⟨r, hr, rfl, rfl, rfl⟩ := hrel
      have hbd := upI_small (f := f) (s := l - r) (m := r) (by omega)
      by_cases hlt : r < l
      · obtain ⟨p, hp⟩ : ∃ p, l = p + 1 + r := ⟨l - 1 - r, by omega⟩
        have hpi : (l : Int) - 1 - r = (p : Int) := by omega
        rw [hpi]
        obtain ⟨b, off, rfl, hb, hd⟩ := (unhide HD).ok (show p < l by omega)
        have d0 := hd p (by omega)
        have hw := unhide HW p (by omega)
        have hfp := unhide HF p
        have HU : Hid (upI f (l - (r + 1)) (r + 1) = upI f (l - r) r * 2 + b01 (f p)) := by
          have e1 : l - (r + 1) = p := by omega
          have e2 : l - r = p + 1 := by omega
          rw [e1, e2]; rfl
        clear hd
        have hpl : (p : Int) < l := by omega
        generalize upI f (l - r) r = y at *
        generalize V p = v at *
        have HQ := hide hfp
        have HP := hide hp
        clear hfp hp hpi
        go_wp2_with fail
        refine (sNetLit_any _ _ _ _ _ _ hw (unhide HE) hn).mono ?_
        rintro e w1 ⟨rfl, rfl⟩
        rw [unhide HQ]
        cases hq : f p
        · rw [hq] at HU
          go_wp2
          go_roundw
          case rel =>
            refine ⟨r + 1, by omega, congrArg (Value.int .i64) (by have := unhide HP; omega), ?_, trivial⟩
            rw [unhide HU]; exact congrArg (Value.int .i64) (by simp [b01])
          case measure => simp [intOf]
        · rw [hq] at HU
          go_wp2
          go_roundw
          case rel =>
            refine ⟨r + 1, by omega, congrArg (Value.int .i64) (by have := unhide HP; omega), ?_, trivial⟩
            rw [unhide HU]; exact congrArg (Value.int .i64) (by simp [b01])
          case measure => simp [intOf]
      · have e : r = l := by omega
        subst e
        have HZ : Hid (r - r = 0) := Nat.sub_self r
        rw [unhide HZ] at *
        go_wp2
        go_ret
        exact ⟨rfl, rfl⟩
  · rw [bvI_no h4]
    clear hd he hW
    go_enter Try.func5, Try.ntmps5
    go_wp2
    go_ret
    exact ⟨rfl, rfl⟩
theorem pow_ways {k : Nat} (h : k < 4) : ((2 : Int) ^ k = 1 ∧ k = 0) ∨ ((2 : Int) ^ k = 2 ∧ k = 1) ∨ ((2 : Int) ^ k = 4 ∧ k = 2) ∨ ((2 : Int) ^ k = 8 ∧ k = 3) := by
  have : k = 0 ∨ k = 1 ∨ k = 2 ∨ k = 3 := by omega
  rcases this with rfl | rfl | rfl | rfl <;> simp
set_option maxHeartbeats 2000000 in
theorem iBitsVal_any (a : Option Addr) (l cap : Nat) (V : Nat → Int) (c : Option Addr) (n cap' : Nat) (B : Nat → Bool) (w : World) (hd : IntsAt w a l V) (hl : l ≤ 1048576) (hW : ∀ i, i < l → W64 (V i)) (he : BlsAt w c n B) (hn : n ≤ 1048576) :
    Calls Try.prog 8 #[.slice c n cap', .slice a l cap] w fun e w' => e = .returned (.int .i64 (bvI l V n B)) ∧ w' = w := by
  by_cases h4 : l ≤ 4
  · rw [bvI_yes h4]
    have HD := hide hd
    have HE := hide he
    have HW := hide hW
    clear hd he hW
    generalize hf : (fun i => metB (V i) n B) = f
    have HF : Hid (∀ i, metB (V i) n B = f i) := fun i => by rw [← hf]
    clear hf
    go_enter Try.func8, Try.ntmps8
    go_wp2
    go_loopw [13, 5] (fun i s wr => ∃ r : Nat, r ≤ l ∧ i = .int .i64 (r : Int) ∧ s = .int .i64 (upI f 0 r) ∧ wr = w) (fun i _ _ => l - (intOf i).toNat)
    case atStart => exact ⟨0, by omega, by simp, by simp [upI], rfl⟩
    case round =>
      obtain ⟨r, hr, rfl, rfl, rfl⟩ := hrel
      have hbd := upI_small (f := f) (s := 0) (m := r) (by omega)
      by_cases hlt : r < l
      · obtain ⟨b, off, rfl, hb, hd⟩ := (unhide HD).ok (show r < l by omega)
        have d0 := hd r (by omega)
        have hw := unhide HW r (by omega)
        have hfp := unhide HF r
        have HU : Hid (upI f 0 (r + 1) = upI f 0 r + b01 (f r) * 2 ^ r) := by
          have := upI_last f r 0
          rw [Nat.zero_add] at this; exact this
        clear hd
        generalize upI f 0 r = y at *
        generalize V r = v at *
        have HQ := hide hfp
        clear hfp
        go_wp2_with fail
        refine (iNetLit_any _ _ _ _ _ _ hw (unhide HE) hn).mono ?_
        rintro e w1 ⟨rfl, rfl⟩
        rw [unhide HQ]
        cases hq : f r
        · rw [hq] at HU
          go_wp2
          go_roundw
          case rel =>
            refine ⟨r + 1, by omega, by go_num, ?_, trivial⟩
            rw [unhide HU]; exact congrArg (Value.int .i64) (by simp [b01])
          case measure => simp [intOf]; omega
        · rw [hq] at HU
          rcases pow_ways (show r < 4 by omega) with ⟨e1, er⟩ | ⟨e1, er⟩ | ⟨e1, er⟩ | ⟨e1, er⟩
          all_goals
            rw [e1] at HU
            clear e1
            go_wp2
            go_roundw
            case rel =>
              refine ⟨r + 1, ?_, by go_num, ?_, trivial⟩
              · omega
              · rw [unhide HU]; exact congrArg (Value.int .i64) (by simp [b01])
            case measure => simp [intOf]; omega
      · have e : r = l := by omega
        subst e
        go_wp2
        go_ret
        exact ⟨rfl, rfl⟩
  · rw [bvI_no h4]
    clear hd he hW
    go_enter Try.func8, Try.ntmps8
    go_wp2
    go_ret
    exact ⟨rfl, rfl⟩
end Go.Proofs.Ytlecioaglhlmiaa
