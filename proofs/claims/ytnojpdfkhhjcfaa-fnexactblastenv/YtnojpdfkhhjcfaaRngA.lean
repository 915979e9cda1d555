/- What the laws write into lists of truth values to see whose memory they are: nothing else turns. -/
import Derived.Test.YtnojpdfkhhjcfaaBolA
import Derived.Test.YtnojpdfkhhjcfaaRd
import Derived.Test.YtnojpdfkhhjcfaaGrwA
namespace Go.Proofs.Ytnojpdfkhhjcfaa
open Go.ChangeShapes Go.WideShapes Go.ChangeAt Go.RowKit Go.Joins
set_option linter.unusedVariables false

/-- Nothing that was there has turned but blocks from lo on and below hi. -/
def Rng (lo hi : Nat) (w w' : World) : Prop := w'.os = w.os ∧ w'.tape = w.tape ∧ w'.output = w.output ∧ w.heap.size ≤ w'.heap.size ∧ ∀ k, k < w.heap.size → (k < lo ∨ hi ≤ k) → w'.heap[k]? = w.heap[k]?
theorem Rng.refl (lo hi : Nat) (w : World) : Rng lo hi w w := ⟨rfl, rfl, rfl, Nat.le_refl _, fun _ _ _ => rfl⟩
theorem Rng.trans {lo hi : Nat} {a b c : World} (h : Rng lo hi a b) (k : Rng lo hi b c) : Rng lo hi a c :=
  ⟨k.1.trans h.1, k.2.1.trans h.2.1, k.2.2.1.trans h.2.2.1, Nat.le_trans h.2.2.2.1 k.2.2.2.1, fun i hi' hR => (k.2.2.2.2 i (Nat.lt_of_lt_of_le hi' h.2.2.2.1) hR).trans (h.2.2.2.2 i hi' hR)⟩
theorem Rng.of {lo hi : Nat} {w w' : World} (h : Below w.heap.size w w') : Rng lo hi w w' := ⟨h.os, h.tape, h.output, h.size, fun i hi _ => h.block i hi⟩
theorem Rng.mov {lo hi R : Nat} {w w' : World} (h : Mov R w w') (h1 : lo ≤ R) (h2 : R < hi) : Rng lo hi w w' := ⟨h.1, h.2.1, h.2.2.1, h.2.2.2.1, fun i hi' hR => h.2.2.2.2 i hi' (by omega)⟩
theorem Rng.below {lo hi B : Nat} {w w' : World} (h : Rng lo hi w w') (hB : B ≤ lo) (hs : B ≤ w.heap.size) : Below B w w' := ⟨h.1, h.2.1, h.2.2.1, h.2.2.2.1, fun i hi' => h.2.2.2.2 i (by omega) (Or.inl (by omega))⟩
theorem Rng.size {lo hi : Nat} {w w' : World} (h : Rng lo hi w w') : w.heap.size ≤ w'.heap.size := h.2.2.2.1
theorem Rng.cell {lo hi : Nat} {w w' : World} (h : Rng lo hi w w') {p : Addr} {v : Value} (hc : w.cell? p = some v) (hR : p.block < lo ∨ hi ≤ p.block) : w'.cell? p = some v :=
  (World.cell?_of_block (w := w) (h.2.2.2.2 p.block (World.block_lt_of_cell? _ _ hc) hR)).trans hc
theorem Rng.frozen {lo hi : Nat} {w w' : World} (h : Rng lo hi w w') {p : Addr} {v : Value} (hc : w.cell? p = some v) (hR : p.block < lo ∨ hi ≤ p.block) (hf : w.frozen? p = false) : w'.frozen? p = false :=
  (World.frozen?_of_block (w := w) (h.2.2.2.2 p.block (World.block_lt_of_cell? _ _ hc) hR)).trans hf
/-- A list lies below a place. -/
def Up (hi : Nat) (a : Option Addr) (l : Nat) : Prop := l = 0 ∨ ∃ B off, a = some ⟨B, off, none⟩ ∧ B < hi
theorem BlsAt.up {w : World} {a : Option Addr} {l : Nat} {V : Nat → Bool} (h : BlsAt w a l V) : Up w.heap.size a l := by
  rcases h with h | ⟨b, off, h1, h2, _⟩
  · exact Or.inl h
  · exact Or.inr ⟨b, off, h1, h2⟩
theorem Up.mono {hi hi' : Nat} {a : Option Addr} {l : Nat} (h : Up hi a l) (hh : hi ≤ hi') : Up hi' a l := by
  rcases h with h | ⟨b, off, h1, h2⟩
  · exact Or.inl h
  · exact Or.inr ⟨b, off, h1, by omega⟩
theorem BlsAt.low {w w' : World} {a : Option Addr} {l lo hi : Nat} {V : Nat → Bool} (h : BlsAt w a l V) (hu : Up lo a l) (hr : Rng lo hi w w') : BlsAt w' a l V := by
  rcases h with h | ⟨b, off, rfl, h2, h3⟩
  · exact Or.inl h
  · rcases hu with hu | ⟨B, o, e, hB⟩
    · exact Or.inl hu
    · cases e
      exact Or.inr ⟨b, off, rfl, Nat.lt_of_lt_of_le h2 hr.size, fun i hi => hr.cell (h3 i hi) (Or.inl hB)⟩
/-- A list that lies alone in a block from base on, and may be written. -/
def OwnB (w : World) (base : Nat) (a : Option Addr) (l : Nat) : Prop := l = 0 ∨ ∃ B, a = some ⟨B, 0, none⟩ ∧ base ≤ B ∧ Made w B l
theorem OwnB.later {w w' : World} {base l : Nat} {a : Option Addr} (h : OwnB w base a l) (hb : Below w.heap.size w w') : OwnB w' base a l := by
  rcases h with h | ⟨B, h1, h2, h3⟩
  · exact Or.inl h
  · exact Or.inr ⟨B, h1, h2, h3.later hb⟩
theorem OwnB.drew {w : World} {base l : Nat} {a : Option Addr} (h : OwnB w base a l) : OwnB w.drew base a l := h
theorem Made.rng {w w' : World} {B m lo hi : Nat} (h : Made w B m) (hr : Rng lo hi w w') (hB : B < lo ∨ hi ≤ B) : Made w' B m :=
  ⟨Nat.lt_of_lt_of_le h.1 hr.size, fun j hj => by obtain ⟨⟨v, hv⟩, hf⟩ := h.2 j hj; exact ⟨⟨v, hr.cell hv hB⟩, hr.frozen hv hB hf⟩⟩
theorem OwnB.high {w w' : World} {base l lo hi : Nat} {a : Option Addr} (h : OwnB w base a l) (hr : Rng lo hi w w') (hh : hi ≤ base) : OwnB w' base a l := by
  rcases h with h | ⟨B, h1, h2, h3⟩
  · exact Or.inl h
  · exact Or.inr ⟨B, h1, h2, h3.rng hr (Or.inr (by omega))⟩
theorem BlsAt.high {w w' : World} {a : Option Addr} {l lo hi base : Nat} {V : Nat → Bool} (h : BlsAt w a l V) (ho : OwnB w base a l) (hr : Rng lo hi w w') (hh : hi ≤ base) : BlsAt w' a l V := by
  rcases h with h | ⟨b, off, rfl, h2, h3⟩
  · exact Or.inl h
  · rcases ho with ho | ⟨B, e, hB, _⟩
    · exact Or.inl ho
    · cases e
      exact Or.inr ⟨b, 0, rfl, Nat.lt_of_lt_of_le h2 hr.size, fun i hi => hr.cell (h3 i hi) (Or.inr (by simp only; omega))⟩
def mkB (k0 i : Nat) : Bool := decide ((k0 + i) % 3 = 0)
set_option maxHeartbeats 1000000 in
theorem toBoolS_made (a : Option Addr) (n cap : Nat) (V : Nat → Bool) (w : World) (hd : BlsAt w a n V) (hn : n ≤ 1048576) :
    Calls Try.prog 18 #[.slice a n cap] w fun e w' => e = .returned (.slice (some ⟨w.heap.size, 0, none⟩) n n) ∧ Bls w' w.heap.size 0 n V ∧ Made w' w.heap.size n ∧ Below w.heap.size w w' := by
  have hmk := run_make_wide (P := Try.prog) 25 4 _ 1 1 Try.underlying25 infoBool .i64 .i64 n (by omega) (by omega)
  simp only [Nat.mul_one] at hmk
  rcases hd with rfl | ⟨b, off, rfl, hb, hd⟩
  · simp only [Int.natCast_zero] at hmk
    go_enter Try.func18, Try.ntmps18
    go_wp2
    go_loopw [4] (fun i wr => i = .int .i64 0 ∧ wr.heap.size = w.heap.size + 1 ∧ Below w.heap.size w wr) (fun _ _ => 0)
    case atStart => exact ⟨rfl, by simp, (by repeat (first | exact Below.refl _ _ | assumption | refine below_drewN ?_ _ | refine Below.drew ?_ | refine Below.alloc ?_ (by first | exact Nat.le_refl _ | exact Below.size (by assumption) | (simp; done) | (simp; omega)) _ | refine Below.setCell ?_ (by first | exact Nat.le_refl _ | exact Below.size (by assumption) | (simp; done) | (simp; omega)) _ | refine Below.trans ?_ (by assumption)))⟩
    case round =>
      obtain ⟨rfl, hsz, hbel⟩ := hrel
      go_wp2
      go_ret
      exact ⟨rfl, fun i hi => by omega, ⟨by omega, fun j hj => by omega⟩, hbel⟩
  · have HD := hide hd
    clear hd
    go_enter Try.func18, Try.ntmps18
    go_wp2
    go_loopw [4] (fun i wr => ∃ k : Nat, k ≤ n ∧ i = .int .i64 k ∧ Bls wr w.heap.size 0 k V ∧ Made wr w.heap.size n ∧ Below w.heap.size w wr) (fun i _ => n - (intOf i).toNat)
    case atStart => exact ⟨0, by omega, rfl, fun i hi => by omega, Made.new _ _ _ _, (by repeat (first | exact Below.refl _ _ | assumption | refine below_drewN ?_ _ | refine Below.drew ?_ | refine Below.alloc ?_ (by first | exact Nat.le_refl _ | exact Below.size (by assumption) | (simp; done) | (simp; omega)) _ | refine Below.setCell ?_ (by first | exact Nat.le_refl _ | exact Below.size (by assumption) | (simp; done) | (simp; omega)) _ | refine Below.trans ?_ (by assumption)))⟩
    case round =>
      obtain ⟨k, hk, rfl, hdk, hmd, hbel⟩ := hrel
      have HK := hide hdk
      have HM := hide hmd
      clear hdk hmd
      have hlt0 := (unhide HM).1
      by_cases hlt : k < n
      · have d0 := (hbel.cell (p := ⟨b, off + k, none⟩) hb).trans (unhide HD k hlt)
        obtain ⟨⟨u0, q0⟩, f0⟩ := (unhide HM).2 k (by omega)
        go_wp2
        all_goals go_roundw
        all_goals first | exact ⟨k + 1, by omega, by go_num, (unhide HK).put q0, ((unhide HM).set _ _), (hbel.setCell (Nat.le_refl _) _)⟩ | exact ⟨k + 1, by omega, by go_num, Bls.put (w := wr.drew) (unhide HK) q0, (Made.set (w := wr.drew) (unhide HM) _ _), (hbel.drew.setCell (Nat.le_refl _) _)⟩ | (simp [intOf]; omega)
      · have e : k = n := by omega
        subst e
        go_wp2
        go_ret
        exact ⟨rfl, unhide HK, unhide HM, hbel⟩
set_option maxHeartbeats 1000000 in
theorem markBoolS_from (k0 : Nat) (a : Option Addr) (l cap base : Nat) (w : World) (hk0 : k0 ≤ 1125899906842624) (ho : OwnB w base a l) (hl : l ≤ 1048576) :
    Calls Try.prog 15 #[.slice a l cap, .int .i64 (k0 : Int)] w fun e w' => e = .returned (.int .i64 ((k0 + l : Nat) : Int)) ∧ BlsAt w' a l (mkB k0) ∧ OwnB w' base a l ∧ Rng base w.heap.size w w' ∧ ∀ B, a = some ⟨B, 0, none⟩ → Mov B w w' := by
  rcases ho with rfl | ⟨B, rfl, hB, hm⟩
  · go_enter Try.func15, Try.ntmps15
    go_wp2
    go_loopw [5, 1] (fun i k wr => i = .int .i64 0 ∧ k = .int .i64 (k0 : Int) ∧ wr = w) (fun _ _ _ => 0)
    case atStart => exact ⟨rfl, rfl, rfl⟩
    case round =>
      obtain ⟨rfl, rfl, rfl⟩ := hrel
      go_wp2
      go_ret
      exact ⟨rfl, Or.inl rfl, Or.inl rfl, Rng.refl _ _ _, fun B _ => Mov.refl B _⟩
  · have HM0 := hide hm
    have hB1 := hm.1
    clear hm
    go_enter Try.func15, Try.ntmps15
    go_wp2
    go_loopw [5, 1] (fun i s wr => ∃ k : Nat, k ≤ l ∧ i = .int .i64 k ∧ s = .int .i64 ((k0 + k : Nat) : Int) ∧ Bls wr B 0 k (mkB k0) ∧ Made wr B l ∧ Rng base w.heap.size w wr ∧ Mov B w wr) (fun i _ _ => l - (intOf i).toNat)
    case atStart => exact ⟨0, by omega, rfl, rfl, fun i hi => by omega, unhide HM0, Rng.refl _ _ _, Mov.refl _ _⟩
    case round =>
      obtain ⟨k, hk, rfl, rfl, hb, hmd, hr, hv⟩ := hrel
      have HMV := hide hv
      clear hv
      have HK := hide hb
      have HM := hide hmd
      have HR := hide hr
      clear hb hmd hr
      by_cases hlt : k < l
      · obtain ⟨⟨u0, q0⟩, f0⟩ := (unhide HM).2 k (by omega)
        have HP := hide ((unhide HK).put q0)
        have HV : Hid (mkB k0 k = (((k0 : Int) + (k : Int)) % 3 == 0)) := by
          show decide _ = _
          by_cases h : (k0 + k) % 3 = 0
          · have : ((k0 : Int) + (k : Int)) % 3 = 0 := by omega
            simp [h, this]
          · have : ¬ ((k0 : Int) + (k : Int)) % 3 = 0 := by omega
            simp [h, this]
        have hbr : B < wr.heap.size := (unhide HM).1
        go_wp2
        go_roundw
        case rel => exact ⟨k + 1, by omega, by go_num, by go_num, by rw [← unhide HV]; exact unhide HP, (unhide HM).set _ _, (unhide HR).trans (Rng.mov (Mov.set _ _ _) hB hB1), (unhide HMV).trans (Mov.set _ _ _)⟩
        case measure => simp [intOf]; omega
      · have e : k = l := by omega
        subst e
        go_wp2
        go_ret
        exact ⟨rfl, (unhide HK).at (unhide HM).1, Or.inr ⟨B, rfl, hB, unhide HM⟩, unhide HR, fun B' e => by cases e; exact unhide HMV⟩
set_option maxHeartbeats 1000000 in
theorem heldBoolS_from (k0 : Nat) (a : Option Addr) (l cap : Nat) (w : World) (hk0 : k0 ≤ 1125899906842624) (hb : BlsAt w a l (mkB k0)) (hl : l ≤ 1048576) :
    Calls Try.prog 16 #[.slice a l cap, .int .i64 (k0 : Int)] w fun e w' => e = .returned (.int .i64 ((k0 + l : Nat) : Int)) ∧ Below w.heap.size w w' := by
  have HB := hide hb
  clear hb
  go_enter Try.func16, Try.ntmps16
  go_wp2
  go_loopw [5, 1] (fun i s wr => ∃ k : Nat, k ≤ l ∧ i = .int .i64 k ∧ s = .int .i64 ((k0 + k : Nat) : Int) ∧ Below w.heap.size w wr) (fun i _ _ => l - (intOf i).toNat)
  case atStart => exact ⟨0, by omega, rfl, rfl, (by repeat (first | exact Below.refl _ _ | assumption | refine below_drewN ?_ _ | refine Below.drew ?_ | refine Below.alloc ?_ (by first | exact Nat.le_refl _ | exact Below.size (by assumption) | (simp; done) | (simp; omega)) _ | refine Below.setCell ?_ (by first | exact Nat.le_refl _ | exact Below.size (by assumption) | (simp; done) | (simp; omega)) _ | refine Below.trans ?_ (by assumption)))⟩
  case round =>
    obtain ⟨k, hk, rfl, rfl, hbel⟩ := hrel
    by_cases hlt : k < l
    · obtain ⟨b, off, rfl, hb, hd⟩ := (unhide HB).ok hlt
      have d0 := (hbel.cell (p := ⟨b, off + k, none⟩) hb).trans (hd k hlt)
      have e : mkB k0 k = (((k0 : Int) + (k : Int)) % 3 == 0) := by
        show decide _ = _
        by_cases h : (k0 + k) % 3 = 0
        · have : ((k0 : Int) + (k : Int)) % 3 = 0 := by omega
          simp [h, this]
        · have : ¬ ((k0 : Int) + (k : Int)) % 3 = 0 := by omega
          simp [h, this]
      rw [e] at d0
      clear hd e
      have kb : ((((k0 : Int) + (k : Int)) % 3 == 0) != (((k0 : Int) + (k : Int)) % 3 == 0)) = false := by simp
      go_wp2
      try go_region
      all_goals try go_wp2
      all_goals go_roundw
      all_goals first | exact ⟨k + 1, by omega, by go_num, by go_num, (by first | exact hbel | exact hbel.drew)⟩ | (simp [intOf]; omega)
    · have e : k = l := by omega
      subst e
      go_wp2
      go_ret
      exact ⟨rfl, hbel⟩
theorem markBoolS_any (a : Option Addr) (l cap base : Nat) (w : World) (ho : OwnB w base a l) (hl : l ≤ 1048576) :
    Calls Try.prog 15 #[.slice a l cap, .int .i64 1] w fun e w' => e = .returned (.int .i64 ((1 + l : Nat) : Int)) ∧ BlsAt w' a l (mkB 1) ∧ OwnB w' base a l ∧ Rng base w.heap.size w w' := (markBoolS_from 1 a l cap base w (by omega) ho hl).mono fun _ _ ⟨h1, h2, h3, h4, _⟩ => ⟨h1, h2, h3, h4⟩
theorem heldBoolS_any (a : Option Addr) (l cap : Nat) (w : World) (hb : BlsAt w a l (mkB 1)) (hl : l ≤ 1048576) :
    Calls Try.prog 16 #[.slice a l cap, .int .i64 1] w fun e w' => e = .returned (.int .i64 ((1 + l : Nat) : Int)) ∧ Below w.heap.size w w' := heldBoolS_from 1 a l cap w (by omega) hb hl
end Go.Proofs.Ytnojpdfkhhjcfaa
