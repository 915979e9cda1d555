/- The list that comes behind k others, made by the model; the next list, made by the program. -/
import Derived.Test.YtihihjchkniifaaLeaM
import Derived.Test.YtihihjchkniifaaBolA
import Derived.Test.YtihihjchkniifaaRd
namespace Go.Proofs.Ytihihjchkniifaa
open Go.ChangeShapes Go.WideShapes Go.ChangeAt Go.RowKit Go.Joins
set_option linter.unusedVariables false

theorem infoBool' : (Try.prog.info? 4).map (fun i => (i.zero, i.size, i.bytes)) = some (some (.bool false), 1, 1) := by kernel_rfl
/-- Places from r' on are as V says. -/
def BlsFrom (w : World) (b r' N : Nat) (V : Nat → Bool) : Prop := ∀ i, r' ≤ i → i < N → w.cell? ⟨b, i, none⟩ = some (.bool (V i))
theorem BlsFrom.put {w : World} {B p N : Nat} {V : Nat → Bool} {u0 : Value} (h : BlsFrom w B (p + 1) N V) (q0 : w.cell? ⟨B, p, none⟩ = some u0) : BlsFrom (w.setCell ⟨B, p, none⟩ (.bool (V p))) B p N V := by
  intro i h1 h2
  by_cases e : i = p
  · subst e; exact World.cell?_setCell_same _ _ _ q0
  · rw [World.cell?_setCell_other _ _ _ _ (by simp <;> omega)]; exact h i (by omega) h2
set_option maxHeartbeats 1000000 in
theorem l4Vals_any (N k : Nat) (w : World) (hN : N ≤ 20) (hk : k ≤ 1048576) :
    Calls Try.prog 18 #[.int .i64 N, .int .i64 k] w fun e w' => e = .returned (.slice (some ⟨w.heap.size, 0, none⟩) N N) ∧ Bls w' w.heap.size 0 N (vls N k) ∧ Made w' w.heap.size N ∧ Below w.heap.size w w' := by
  have hmk := run_make_wide (P := Try.prog) 26 4 _ 1 1 Try.underlying26 infoBool' .i64 .i64 N (by omega) (by omega)
  simp only [Nat.mul_one] at hmk
  go_enter Try.func18, Try.ntmps18
  go_wp2
  go_loopw [6, 1] (fun i s wr => ∃ r : Nat, r ≤ N ∧ i = .int .i64 ((N : Int) - 1 - r) ∧ s = .int .i64 ((k / 2 ^ r : Nat) : Int) ∧ BlsFrom wr w.heap.size (N - r) N (vls N k) ∧ Made wr w.heap.size N ∧ Below w.heap.size w wr) (fun i _ _ => ((intOf i) + 1).toNat)
  case atStart => exact ⟨0, by omega, by simp, by simp, fun i h1 h2 => by omega, Made.new _ _ _ _, (by repeat (first | exact Below.refl _ _ | assumption | refine below_drewN ?_ _ | refine Below.drew ?_ | refine Below.alloc ?_ (by first | exact Nat.le_refl _ | exact Below.size (by assumption) | (simp; done) | (simp; omega)) _ | refine Below.setCell ?_ (by first | exact Nat.le_refl _ | exact Below.size (by assumption) | (simp; done) | (simp; omega)) _ | refine Below.trans ?_ (by assumption)))⟩
  case round =>
    obtain ⟨r, hr, rfl, rfl, hf, hmd, hbel⟩ := hrel
    have HF := hide hf
    have HM := hide hmd
    clear hf hmd
    have hlt0 := (unhide HM).1
    by_cases hlt : r < N
    · obtain ⟨p, hp⟩ : ∃ p, N = p + 1 + r := ⟨N - 1 - r, by omega⟩
      have hpi : (N : Int) - 1 - r = (p : Int) := by omega
      rw [hpi]
      have hpn : (p : Int) < N := by omega
      obtain ⟨⟨u0, q0⟩, f0⟩ := (unhide HM).2 p (by omega)
      have HV : Hid (vls N k p = decide (((k / 2 ^ r % 2 : Nat) : Int) = 1)) := by
        show k.testBit (N - 1 - p) = _
        have : N - 1 - p = r := by omega
        rw [this, odd_bit]
        apply decide_eq_decide.2
        omega
      have HF1 : Hid (BlsFrom wr w.heap.size (p + 1) N (vls N k)) := by have := unhide HF; rw [show N - r = p + 1 by omega] at this; exact this
      have HH := hide (half_pow k r)
      have hq : k / 2 ^ r ≤ 1048576 := Nat.le_trans (Nat.div_le_self _ _) hk
      generalize k / 2 ^ r = y at *
      clear HF
      go_wp2
      go_roundw
      case rel =>
        refine ⟨r + 1, by omega, ?_, ?_, ?_, (unhide HM).set _ _, hbel.setCell (Nat.le_refl _) _⟩
        · exact congrArg (Value.int .i64) (by omega)
        · rw [← unhide HH]; exact congrArg (Value.int .i64) (by omega)
        · rw [show N - (r + 1) = p by omega]
          have e : ((y : Int) % 2 == 1) = vls N k p := by rw [unhide HV]; by_cases h : (y : Int) % 2 = 1 <;> simp [h]
          rw [e]
          exact (unhide HF1).put q0
      case measure => simp [intOf]
    · have e : r = N := by omega
      subst e
      go_wp2
      go_ret
      exact ⟨rfl, fun i hi => by rw [Nat.zero_add]; exact unhide HF i (by omega) hi, unhide HM, hbel⟩
end Go.Proofs.Ytihihjchkniifaa
