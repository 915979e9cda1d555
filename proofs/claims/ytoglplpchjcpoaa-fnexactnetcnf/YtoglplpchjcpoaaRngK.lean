/- What the laws write into lists of numbers to see whose memory they are. -/
import Derived.Test.YtoglplpchjcpoaaRngA
import Derived.Test.YtoglplpchjcpoaaIapA
namespace Go.Proofs.Ytoglplpchjcpoaa
open Go.ChangeShapes Go.WideShapes Go.ChangeAt Go.RowKit Go.Joins
set_option linter.unusedVariables false

theorem IntsAt.up {w : World} {a : Option Addr} {l : Nat} {V : Nat → Int} (h : IntsAt w a l V) : Up w.heap.size a l := by
  rcases h with h | ⟨b, off, h1, h2, _⟩
  · exact Or.inl h
  · exact Or.inr ⟨b, off, h1, h2⟩
theorem IntsAt.low {w w' : World} {a : Option Addr} {l lo hi : Nat} {V : Nat → Int} (h : IntsAt w a l V) (hu : Up lo a l) (hr : Rng lo hi w w') : IntsAt w' a l V := by
  rcases h with h | ⟨b, off, rfl, h2, h3⟩
  · exact Or.inl h
  · rcases hu with hu | ⟨B, o, e, hB⟩
    · exact Or.inl hu
    · cases e
      exact Or.inr ⟨b, off, rfl, Nat.lt_of_lt_of_le h2 hr.size, fun i hi => hr.cell (h3 i hi) (Or.inl hB)⟩
theorem IntsAt.high {w w' : World} {a : Option Addr} {l lo hi base : Nat} {V : Nat → Int} (h : IntsAt w a l V) (ho : OwnB w base a l) (hr : Rng lo hi w w') (hh : hi ≤ base) : IntsAt w' a l V := by
  rcases h with h | ⟨b, off, rfl, h2, h3⟩
  · exact Or.inl h
  · rcases ho with ho | ⟨B, e, hB, _⟩
    · exact Or.inl ho
    · cases e
      exact Or.inr ⟨b, 0, rfl, Nat.lt_of_lt_of_le h2 hr.size, fun i hi => hr.cell (h3 i hi) (Or.inr (by simp only; omega))⟩
theorem IntsAt.cong {w : World} {a : Option Addr} {n : Nat} {V V' : Nat → Int} (h : IntsAt w a n V) (e : ∀ i, i < n → V i = V' i) : IntsAt w a n V' := by
  rcases h with h | ⟨b, off, h1, h2, h3⟩
  · exact Or.inl h
  · exact Or.inr ⟨b, off, h1, h2, fun i hi => by rw [← e i hi]; exact h3 i hi⟩
theorem OwnB.mov {w w' : World} {base l R : Nat} {a : Option Addr} (h : OwnB w base a l) (hm : Mov R w w') (hn : ∀ B, a = some ⟨B, 0, none⟩ → B ≠ R) : OwnB w' base a l := by
  rcases h with h | ⟨B, h1, h2, h3⟩
  · exact Or.inl h
  · exact Or.inr ⟨B, h1, h2, h3.mov hm (hn B h1)⟩
/-- A list of numbers as a list. -/
def lsI (n : Nat) (V : Nat → Int) : List Int := (List.range n).map V
theorem lsI_len (n : Nat) (V : Nat → Int) : (lsI n V).length = n := by simp [lsI]
theorem lsI_at {n i : Nat} {V : Nat → Int} (h : i < n) : at0 (lsI n V) i = V i := by
  unfold at0 lsI
  rw [List.getD_eq_getElem?_getD]
  simp [h]
def mkI (k0 : Int) (i : Nat) : Int := k0 + i
set_option maxHeartbeats 1000000 in
theorem markIntS_from (k0 : Int) (a : Option Addr) (l cap base : Nat) (w : World) (hk0 : 0 ≤ k0 ∧ k0 ≤ 1125899906842624) (ho : OwnB w base a l) (hl : l ≤ 1048576) :
    Calls Try.prog 32 #[.slice a l cap, .int .i64 k0] w fun e w' => e = .returned (.int .i64 (k0 + l)) ∧ IntsAt w' a l (mkI k0) ∧ OwnB w' base a l ∧ (∀ B, a = some ⟨B, 0, none⟩ → Mov B w w') ∧ ∀ hi, Up hi a l → Rng base hi w w' := by
  obtain ⟨k00, k01⟩ := hk0
  by_cases hz : l = 0
  · subst hz
    go_enter Try.func32, Try.ntmps32
    go_wp2
    go_loopw [5, 1] (fun i k wr => i = .int .i64 0 ∧ k = .int .i64 k0 ∧ wr = w) (fun _ _ _ => 0)
    case atStart => exact ⟨rfl, rfl, rfl⟩
    case round =>
      obtain ⟨rfl, rfl, rfl⟩ := hrel
      go_wp2
      go_ret
      exact ⟨ret_int (by simp), Or.inl rfl, Or.inl rfl, fun B _ => Mov.refl B _, fun hi _ => Rng.refl _ _ _⟩
  · rcases ho with h | ⟨B, rfl, hB, hm⟩
    · exact absurd h hz
    have HM0 := hide hm
    have HZ := hide hz
    have hB1 := hm.1
    clear hm hz
    go_enter Try.func32, Try.ntmps32
    go_wp2
    go_loopw [5, 1] (fun i s wr => ∃ k : Nat, k ≤ l ∧ i = .int .i64 k ∧ s = .int .i64 (k0 + k) ∧ Ints wr B 0 k (mkI k0) ∧ Made wr B l ∧ Mov B w wr) (fun i _ _ => l - (intOf i).toNat)
    case atStart => exact ⟨0, by omega, rfl, by simp, fun i hi => by omega, unhide HM0, Mov.refl _ _⟩
    case round =>
      obtain ⟨k, hk, rfl, rfl, hb, hmd, hv⟩ := hrel
      have HMV := hide hv
      have HK := hide hb
      have HM := hide hmd
      clear hb hmd hv
      by_cases hlt : k < l
      · obtain ⟨⟨u0, q0⟩, f0⟩ := (unhide HM).2 k (by omega)
        have hp := (unhide HK).put q0
        rw [show mkI k0 k = k0 + (k : Int) from rfl] at hp
        have HP := hide hp
        clear hp
        go_wp2
        go_roundw
        case rel => exact ⟨k + 1, by omega, by go_num, by go_num, unhide HP, (unhide HM).set _ _, (unhide HMV).trans (Mov.set _ _ _)⟩
        case measure => simp [intOf]; omega
      · have e : k = l := by omega
        subst e
        go_wp2
        go_ret
        exact ⟨rfl, (unhide HK).at (unhide HM).1, Or.inr ⟨B, rfl, hB, unhide HM⟩, fun B' e => (by cases e; exact unhide HMV), fun hi hu => by
          rcases hu with h | ⟨B', o, e, hB'⟩
          · exact absurd h (unhide HZ)
          · cases e; exact Rng.mov (unhide HMV) hB hB'⟩
set_option maxHeartbeats 1000000 in
theorem heldIntS_from (k0 : Int) (a : Option Addr) (l cap : Nat) (w : World) (hk0 : 0 ≤ k0 ∧ k0 ≤ 1125899906842624) (hb : IntsAt w a l (mkI k0)) (hl : l ≤ 1048576) :
    Calls Try.prog 33 #[.slice a l cap, .int .i64 k0] w fun e w' => e = .returned (.int .i64 (k0 + l)) ∧ Below w.heap.size w w' := by
  obtain ⟨k00, k01⟩ := hk0
  have HB := hide hb
  clear hb
  go_enter Try.func33, Try.ntmps33
  go_wp2
  go_loopw [5, 1] (fun i s wr => ∃ k : Nat, k ≤ l ∧ i = .int .i64 k ∧ s = .int .i64 (k0 + k) ∧ Below w.heap.size w wr) (fun i _ _ => l - (intOf i).toNat)
  case atStart => exact ⟨0, by omega, rfl, by simp, (by repeat (first | exact Below.refl _ _ | assumption | refine below_drewN ?_ _ | refine Below.drew ?_ | refine Below.alloc ?_ (by first | exact Nat.le_refl _ | exact Below.size (by assumption) | (simp; done) | (simp; omega)) _ | refine Below.setCell ?_ (by first | exact Nat.le_refl _ | exact Below.size (by assumption) | (simp; done) | (simp; omega)) _ | refine Below.trans ?_ (by assumption)))⟩
  case round =>
    obtain ⟨k, hk, rfl, rfl, hbel⟩ := hrel
    by_cases hlt : k < l
    · obtain ⟨b, off, rfl, hb, hd⟩ := (unhide HB).ok hlt
      have d0 : wr.cell? ⟨b, off + k, none⟩ = some (.int .i64 (k0 + (k : Int))) := (hbel.cell (p := ⟨b, off + k, none⟩) hb).trans (hd k hlt)
      clear hd
      have kb : ((k0 + (k : Int)) != (k0 + (k : Int))) = false := by simp
      go_wp2
      try go_region
      all_goals try go_wp2
      all_goals go_roundw
      all_goals first | exact ⟨k + 1, by omega, by go_num, by go_num, (by first | exact hbel | exact hbel.drew)⟩ | (simp [intOf]; omega)
    · have e : k = l := by omega
      subst e
      go_wp2
      go_ret
      exact ⟨rfl, hbel⟩
set_option maxHeartbeats 1000000 in
theorem eqIntS_two (a c : Option Addr) (n cap cap' : Nat) (V : Nat → Int) (w : World) (hd : IntsAt w a n V) (hd' : IntsAt w c n V) (hn : n ≤ 1048576) :
    Calls Try.prog 30 #[.slice a n cap, .slice c n cap'] w fun e w' => e = .returned (.bool true) ∧ Below w.heap.size w w' := by
  rcases hd with rfl | ⟨b, off, rfl, hb, hd⟩
  · go_enter Try.func30, Try.ntmps30
    go_wp2
    go_loopw [5] (fun i wr => i = .int .i64 0 ∧ Below w.heap.size w wr) (fun i _ => 0)
    case atStart => exact ⟨rfl, (by repeat (first | exact Below.refl _ _ | assumption | refine below_drewN ?_ _ | refine Below.drew ?_ | refine Below.alloc ?_ (by first | exact Nat.le_refl _ | exact Below.size (by assumption) | (simp; done) | (simp; omega)) _ | refine Below.setCell ?_ (by first | exact Nat.le_refl _ | exact Below.size (by assumption) | (simp; done) | (simp; omega)) _ | refine Below.trans ?_ (by assumption)))⟩
    case round =>
      obtain ⟨rfl, hbel⟩ := hrel
      go_wp2
      go_ret
      exact ⟨rfl, hbel⟩
  · rcases hd' with rfl | ⟨c, off', rfl, hc, hd'⟩
    · go_enter Try.func30, Try.ntmps30
      go_wp2
      go_loopw [5] (fun i wr => i = .int .i64 0 ∧ Below w.heap.size w wr) (fun i _ => 0)
      case atStart => exact ⟨rfl, (by repeat (first | exact Below.refl _ _ | assumption | refine below_drewN ?_ _ | refine Below.drew ?_ | refine Below.alloc ?_ (by first | exact Nat.le_refl _ | exact Below.size (by assumption) | (simp; done) | (simp; omega)) _ | refine Below.setCell ?_ (by first | exact Nat.le_refl _ | exact Below.size (by assumption) | (simp; done) | (simp; omega)) _ | refine Below.trans ?_ (by assumption)))⟩
      case round =>
        obtain ⟨rfl, hbel⟩ := hrel
        go_wp2
        go_ret
        exact ⟨rfl, hbel⟩
    · exact eqIntS_same _ _ _ _ _ _ _ _ _ hb hc hd hd' hn
end Go.Proofs.Ytoglplpchjcpoaa
