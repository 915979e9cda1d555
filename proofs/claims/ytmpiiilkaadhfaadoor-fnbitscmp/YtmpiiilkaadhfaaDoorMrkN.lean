/- What the laws write into nets to see whose memory they are. -/
import Derived.Test.YtmpiiilkaadhfaaDoorGtA
import Derived.Test.YtmpiiilkaadhfaaDoorRngA
namespace Go.Proofs.YtmpiiilkaadhfaaDoor
open Go.ChangeShapes Go.WideShapes Go.ChangeAt Go.RowKit Go.Joins
set_option linter.unusedVariables false
set_option maxRecDepth 100000

def mkG (k0 i : Nat) : Gt := ⟨(k0 : Int) % 3 == 0, (k0 : Int) + 3 * (i : Int) + 1, (k0 : Int) + 3 * (i : Int) + 1 + 1⟩
/-- Gates in memory of one's own. -/
def OwnG (w : World) (base : Nat) (a : Option Addr) (n : Nat) : Prop := n = 0 ∨ ∃ B, a = some ⟨B, 0, none⟩ ∧ base ≤ B ∧ Made w B (n * 3)
theorem OwnG.later {w w' : World} {base n : Nat} {a : Option Addr} (h : OwnG w base a n) (hb : Below w.heap.size w w') : OwnG w' base a n := by
  rcases h with h | ⟨B, e, hB, hm⟩
  · exact Or.inl h
  · exact Or.inr ⟨B, e, hB, hm.later hb⟩
theorem OwnG.drew {w : World} {base n : Nat} {a : Option Addr} (h : OwnG w base a n) : OwnG w.drew base a n := h
theorem OwnG.high {w w' : World} {base n lo hi : Nat} {a : Option Addr} (h : OwnG w base a n) (hr : Rng lo hi w w') (hh : hi ≤ base) : OwnG w' base a n := by
  rcases h with h | ⟨B, e, hB, hm⟩
  · exact Or.inl h
  · exact Or.inr ⟨B, e, hB, hm.rng hr (Or.inr (by omega))⟩
theorem GtsAt.high {w w' : World} {a : Option Addr} {n lo hi base : Nat} {G : Nat → Gt} (h : GtsAt w a n G) (ho : OwnG w base a n) (hr : Rng lo hi w w') (hh : hi ≤ base) : GtsAt w' a n G := by
  rcases h with h | ⟨b, off, rfl, h2, h3⟩
  · exact Or.inl h
  · rcases ho with ho | ⟨B, e, hB, _⟩
    · exact Or.inl ho
    · cases e
      exact Or.inr ⟨b, 0, rfl, Nat.lt_of_lt_of_le h2 hr.size, fun i hi => ⟨hr.cell (h3 i hi).1 (Or.inr (by simp only; omega)), hr.cell (h3 i hi).2.1 (Or.inr (by simp only; omega)), hr.cell (h3 i hi).2.2 (Or.inr (by simp only; omega))⟩⟩
theorem GtsAt.up {w : World} {a : Option Addr} {n : Nat} {G : Nat → Gt} (h : GtsAt w a n G) : Up w.heap.size a n := by
  rcases h with h | ⟨b, off, rfl, h2, _⟩
  · exact Or.inl h
  · exact Or.inr ⟨b, off, rfl, h2⟩
theorem GtsAt.low {w w' : World} {a : Option Addr} {n lo hi : Nat} {G : Nat → Gt} (h : GtsAt w a n G) (hu : Up lo a n) (hr : Rng lo hi w w') : GtsAt w' a n G := by
  rcases h with h | ⟨b, off, rfl, h2, h3⟩
  · exact Or.inl h
  · rcases hu with hu | ⟨B, o, e, hB⟩
    · exact Or.inl hu
    · cases e
      exact Or.inr ⟨b, off, rfl, Nat.lt_of_lt_of_le h2 hr.size, fun i hi => ⟨hr.cell (h3 i hi).1 (Or.inl (by simp only; omega)), hr.cell (h3 i hi).2.1 (Or.inl (by simp only; omega)), hr.cell (h3 i hi).2.2 (Or.inl (by simp only; omega))⟩⟩
theorem NBox.rng {w w' : World} {b lo hi : Nat} {m : Int} {a : Option Addr} {n cap : Nat} (h : NBox w b m a n cap) (hm : Rng lo hi w w') (hb : b < lo ∨ hi ≤ b) : NBox w' b m a n cap := ⟨hm.cell h.1 hb, hm.cell h.2 hb⟩
set_option maxRecDepth 100000 in
set_option maxHeartbeats 2000000 in
theorem markGateS_any (k0 : Nat) (a : Option Addr) (n cap base : Nat) (w : World) (hk0 : k0 ≤ 1125899906842624) (ho : OwnG w base a n) (hl : n ≤ 1048576) :
    Calls Tryd.prog 60 #[.slice a n cap, .int .i64 (k0 : Int)] w fun e w' => e = .returned (.int .i64 ((k0 : Int) + 3 * (n : Int))) ∧ GtsAt w' a n (mkG k0) ∧ OwnG w' base a n ∧ Rng base w.heap.size w w' ∧ (∀ B, a = some ⟨B, 0, none⟩ → Mov B w w') ∧ ∀ hi, Up hi a n → Rng base hi w w' := by
  rcases ho with rfl | ⟨B, rfl, hB, hm⟩
  · go_enter Tryd.func60, Tryd.ntmps60
    go_wp2
    go_loopw [5, 1] (fun i k wr => i = .int .i64 0 ∧ k = .int .i64 (k0 : Int) ∧ wr = w) (fun _ _ _ => 0)
    case atStart => exact ⟨rfl, rfl, rfl⟩
    case round =>
      obtain ⟨rfl, rfl, rfl⟩ := hrel
      go_wp2
      go_ret
      exact ⟨ret_int (by simp), Or.inl rfl, Or.inl rfl, Rng.refl _ _ _, fun B _ => Mov.refl B _, fun hi _ => Rng.refl _ _ _⟩
  · by_cases hz : n = 0
    · subst hz
      go_enter Tryd.func60, Tryd.ntmps60
      go_wp2
      go_loopw [5, 1] (fun i k wr => i = .int .i64 0 ∧ k = .int .i64 (k0 : Int) ∧ wr = w) (fun _ _ _ => 0)
      case atStart => exact ⟨rfl, rfl, rfl⟩
      case round =>
        obtain ⟨rfl, rfl, rfl⟩ := hrel
        go_wp2
        go_ret
        exact ⟨ret_int (by simp), Or.inl rfl, Or.inl rfl, Rng.refl _ _ _, fun B _ => Mov.refl B _, fun hi _ => Rng.refl _ _ _⟩
    have HZ0 := hide hz
    clear hz
    have HM0 := hide hm
    have hB1 := hm.1
    clear hm
    go_enter Tryd.func60, Tryd.ntmps60
    go_wp2
    go_loopw [5, 1] (fun i s wr => ∃ k : Nat, k ≤ n ∧ i = .int .i64 k ∧ s = .int .i64 ((k0 : Int) + 3 * (k : Int)) ∧ Gts wr B 0 k (mkG k0) ∧ Made wr B (n * 3) ∧ Rng base w.heap.size w wr ∧ Mov B w wr) (fun i _ _ => n - (intOf i).toNat)
    case atStart => exact ⟨0, by omega, rfl, by simp, fun i hi => by omega, unhide HM0, Rng.refl _ _ _, Mov.refl _ _⟩
    case round =>
      obtain ⟨k, hk, rfl, rfl, hb, hmd, hr, hv⟩ := hrel
      have HMV := hide hv
      clear hv
      have HK := hide hb
      have HM := hide hmd
      have HR := hide hr
      clear hb hmd hr
      by_cases hlt : k < n
      · obtain ⟨⟨u0, q0⟩, f0⟩ := (unhide HM).2 (k * 3) (by omega)
        obtain ⟨⟨u1, q1⟩, f1⟩ := (unhide HM).2 (k * 3 + 1) (by omega)
        obtain ⟨⟨u2, q2⟩, f2⟩ := (unhide HM).2 (k * 3 + 2) (by omega)
        have HP := hide ((unhide HK).put q0 q1 q2)
        have hbr : B < wr.heap.size := (unhide HM).1
        go_wp2
        go_roundw
        case rel => exact ⟨k + 1, by omega, by go_num, by go_num, unhide HP, (((unhide HM).set _ _).set _ _).set _ _, (((unhide HR).trans (Rng.mov (Mov.set _ _ _) hB hB1)).trans (Rng.mov (Mov.set _ _ _) hB hB1)).trans (Rng.mov (Mov.set _ _ _) hB hB1), (((unhide HMV).trans (Mov.set _ _ _)).trans (Mov.set _ _ _)).trans (Mov.set _ _ _)⟩
        case measure => simp [intOf]; omega
      · have e : k = n := by omega
        subst e
        go_wp2
        go_ret
        exact ⟨rfl, (unhide HK).at (unhide HM).1, Or.inr ⟨B, rfl, hB, unhide HM⟩, unhide HR, (fun B' e => by cases e; exact unhide HMV), fun hi hu => by
          rcases hu with h | ⟨B', o, e, hB'⟩
          · exact absurd h (unhide HZ0)
          · cases e; exact Rng.mov (unhide HMV) hB hB'⟩
set_option maxRecDepth 100000 in
set_option maxHeartbeats 1000000 in
theorem markNet_any (k0 : Nat) (m : Int) (a : Option Addr) (n cap base : Nat) (w : World) (hk0 : k0 ≤ 1125899906842624) (ho : OwnG w base a n) (hl : n ≤ 1048576) (hbw : base ≤ w.heap.size) :
    Calls Tryd.prog 26 #[.agg #[.int .i64 m, .slice a n cap], .int .i64 (k0 : Int)] w fun e w' => e = .returned (.int .i64 ((k0 : Int) + 3 * (n : Int))) ∧ GtsAt w' a n (mkG k0) ∧ OwnG w' base a n ∧ Rng base w.heap.size w w' ∧ (∀ B, a = some ⟨B, 0, none⟩ → Mov B w w') ∧ ∀ hi, Up hi a n → Rng base hi w w' := by
  have HO := hide ho
  clear ho
  obtain ⟨wz, hwz⟩ : ∃ wz, wz = w.alloc (.cells #[.int .i64 m, .slice a n cap] 25) := ⟨_, rfl⟩
  have BZ : Below w.heap.size w wz := by rw [hwz]; exact (Below.refl _ _).alloc (Nat.le_refl _) _
  have HZ := hide hwz
  clear hwz
  go_enter Tryd.func26, Tryd.ntmps26
  go_wp2_with fail
  rw [← unhide HZ]
  refine (markGateS_any k0 _ _ _ base _ hk0 ((unhide HO).later BZ) hl).mono ?_
  rintro e w1 ⟨rfl, h1, h2, r1, v1, u1⟩
  have HUP : Hid (∀ hi, Up hi a n → Rng base hi w w1) := fun hi hu => (Rng.of BZ).trans (u1 hi hu)
  have HMV : Hid (∀ B, a = some ⟨B, 0, none⟩ → Mov B w w1) := fun B e => (Mov.of BZ).trans (v1 B e)
  have H1 := hide h1
  have H2 := hide h2
  have HR : Hid (Rng base w.heap.size w w1) := by
    refine ⟨r1.1.trans BZ.os, r1.2.1.trans BZ.tape, r1.2.2.1.trans BZ.output, Nat.le_trans BZ.size r1.size, fun k hk hor => ?_⟩
    exact (r1.2.2.2.2 k (Nat.lt_of_lt_of_le hk BZ.size) (by rcases hor with h | h; exact Or.inl h; exact absurd hk (by omega))).trans (BZ.block k hk)
  clear h1 h2 r1 v1 u1
  go_wp2
  go_ret
  exact ⟨rfl, unhide H1, unhide H2, unhide HR, unhide HMV, unhide HUP⟩
set_option maxRecDepth 100000 in
set_option maxHeartbeats 2000000 in
theorem heldGateS_any (k0 : Nat) (a : Option Addr) (n cap : Nat) (w : World) (hk0 : k0 ≤ 1125899906842624) (hd : GtsAt w a n (mkG k0)) (hl : n ≤ 1048576) :
    Calls Tryd.prog 61 #[.slice a n cap, .int .i64 (k0 : Int)] w fun e w' => e = .returned (.int .i64 ((k0 : Int) + 3 * (n : Int))) ∧ Below w.heap.size w w' := by
  have HD := hide hd
  clear hd
  go_enter Tryd.func61, Tryd.ntmps61
  go_wp2
  go_loopw [5, 1] (fun i s wr => ∃ k : Nat, k ≤ n ∧ i = .int .i64 k ∧ s = .int .i64 ((k0 : Int) + 3 * (k : Int)) ∧ Below w.heap.size w wr) (fun i _ _ => n - (intOf i).toNat)
  case atStart => exact ⟨0, by omega, rfl, by simp, (by repeat (first | exact Below.refl _ _ | assumption | refine below_drewN ?_ _ | refine Below.drew ?_ | refine Below.alloc ?_ (by first | exact Nat.le_refl _ | exact Below.size (by assumption) | (simp; done) | (simp; omega)) _ | refine Below.setCell ?_ (by first | exact Nat.le_refl _ | exact Below.size (by assumption) | (simp; done) | (simp; omega)) _ | refine Below.trans ?_ (by assumption)))⟩
  case round =>
    obtain ⟨k, hk, rfl, rfl, hbel⟩ := hrel
    by_cases hlt : k < n
    · obtain ⟨b, off, rfl, hb, hd⟩ := (unhide HD).ok hlt
      obtain ⟨c0, c1, c2⟩ := hd k hlt
      have d0 : wr.cell? ⟨b, off + k * 3, none⟩ = some (.bool ((k0 : Int) % 3 == 0)) := (hbel.cell (p := ⟨b, off + k * 3, none⟩) hb).trans c0
      have d1 : wr.cell? ⟨b, off + k * 3 + 1, none⟩ = some (.int .i64 ((k0 : Int) + 3 * (k : Int) + 1)) := (hbel.cell (p := ⟨b, off + k * 3 + 1, none⟩) hb).trans c1
      have d2 : wr.cell? ⟨b, off + k * 3 + 2, none⟩ = some (.int .i64 ((k0 : Int) + 3 * (k : Int) + 1 + 1)) := (hbel.cell (p := ⟨b, off + k * 3 + 2, none⟩) hb).trans c2
      clear hd c0 c1 c2
      have kb : (((k0 : Int) % 3 == 0) != ((k0 : Int) % 3 == 0)) = false := by simp
      have kc : (((k0 : Int) + 3 * (k : Int) + 1) != ((k0 : Int) + 3 * (k : Int) + 1)) = false := by simp
      have kd : (((k0 : Int) + 3 * (k : Int) + 1 + 1) != ((k0 : Int) + 3 * (k : Int) + 1 + 1)) = false := by simp
      go_wp2
      go_roundw
      case rel => exact ⟨k + 1, by omega, by go_num, by go_num, hbel⟩
      case measure => simp [intOf]; omega
    · have e : k = n := by omega
      subst e
      go_wp2
      go_ret
      exact ⟨rfl, hbel⟩
set_option maxRecDepth 100000 in
set_option maxHeartbeats 1000000 in
theorem heldNet_any (k0 : Nat) (m : Int) (a : Option Addr) (n cap : Nat) (w : World) (hk0 : k0 ≤ 1125899906842624) (hd : GtsAt w a n (mkG k0)) (hl : n ≤ 1048576) :
    Calls Tryd.prog 28 #[.agg #[.int .i64 m, .slice a n cap], .int .i64 (k0 : Int)] w fun e w' => e = .returned (.int .i64 ((k0 : Int) + 3 * (n : Int))) ∧ Below w.heap.size w w' := by
  have HD := hide hd
  clear hd
  have BZ : Below w.heap.size w (w.alloc (.cells #[.int .i64 m, .slice a n cap] 25)) := (Below.refl _ _).alloc (Nat.le_refl _) _
  go_enter Tryd.func28, Tryd.ntmps28
  go_wp2_with fail
  refine (heldGateS_any k0 _ _ _ _ hk0 ((unhide HD).later BZ) hl).mono ?_
  rintro e w1 ⟨rfl, b1⟩
  have BL := BZ.trans (b1.mono BZ.size)
  clear b1 BZ
  go_wp2
  go_ret
  exact ⟨rfl, BL⟩
end Go.Proofs.YtmpiiilkaadhfaaDoor
