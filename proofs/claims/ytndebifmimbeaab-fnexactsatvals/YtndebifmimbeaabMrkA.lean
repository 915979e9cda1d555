/- What the laws write into lists to see whose memory they are: nothing else turns. -/
import Derived.Test.YtndebifmimbeaabLeaB
namespace Go.Proofs.Ytndebifmimbeaab
open Go.ChangeShapes Go.WideShapes Go.ChangeAt Go.RowKit Go.Joins
set_option linter.unusedVariables false

/-- Nothing that was there has turned but blocks from lo on and below hi. -/
def Rng (lo hi : Nat) (w w' : World) : Prop := w'.os = w.os ∧ w'.tape = w.tape ∧ w'.output = w.output ∧ w.heap.size ≤ w'.heap.size ∧ ∀ k, k < w.heap.size → (k < lo ∨ hi ≤ k) → w'.heap[k]? = w.heap[k]?
theorem Rng.refl (lo hi : Nat) (w : World) : Rng lo hi w w := ⟨rfl, rfl, rfl, Nat.le_refl _, fun _ _ _ => rfl⟩
theorem Rng.trans {lo hi : Nat} {a b c : World} (h : Rng lo hi a b) (k : Rng lo hi b c) : Rng lo hi a c :=
  ⟨k.1.trans h.1, k.2.1.trans h.2.1, k.2.2.1.trans h.2.2.1, Nat.le_trans h.2.2.2.1 k.2.2.2.1, fun i hi' hR => (k.2.2.2.2 i (Nat.lt_of_lt_of_le hi' h.2.2.2.1) hR).trans (h.2.2.2.2 i hi' hR)⟩
theorem Rng.of {lo hi : Nat} {w w' : World} (h : Below w.heap.size w w') : Rng lo hi w w' := ⟨h.os, h.tape, h.output, h.size, fun i hi _ => h.block i hi⟩
theorem Rng.mov {lo hi R : Nat} {w w' : World} (h : Mov R w w') (h1 : lo ≤ R) (h2 : R < hi) : Rng lo hi w w' := ⟨h.1, h.2.1, h.2.2.1, h.2.2.2.1, fun i hi' hR => h.2.2.2.2 i hi' (by omega)⟩
theorem Rng.below {lo hi B : Nat} {w w' : World} (h : Rng lo hi w w') (hB : B ≤ lo) (hs : B ≤ w.heap.size) : Below B w w' := ⟨h.1, h.2.1, h.2.2.1, h.2.2.2.1, fun i hi' => h.2.2.2.2 i (by omega) (Or.inl (by omega))⟩
theorem Rng.size {lo hi : Nat} {w w' : World} (h : Rng lo hi w w') : w.heap.size ≤ w'.heap.size := h.2.2.2.1
theorem Rng.cell {lo hi : Nat} {w w' : World} (h : Rng lo hi w w') {p : Addr} {v : Value} (hc : w.cell? p = some v) (hR : p.block < lo ∨ hi ≤ p.block) : w'.cell? p = some v :=
  (World.cell?_of_block (w := w) (h.2.2.2.2 p.block (World.block_lt_of_cell? _ _ hc) hR)).trans hc
theorem Rng.frozen {lo hi : Nat} {w w' : World} (h : Rng lo hi w w') {p : Addr} {v : Value} (hc : w.cell? p = some v) (hR : p.block < lo ∨ hi ≤ p.block) (hf : w.frozen? p = false) : w'.frozen? p = false :=
  (World.frozen?_of_block (w := w) (h.2.2.2.2 p.block (World.block_lt_of_cell? _ _ hc) hR)).trans hf
theorem Box.rng {w w' : World} {b lo hi : Nat} {m : Int} {a : Option Addr} {n cap : Nat} (h : Box w b m a n cap) (hm : Rng lo hi w w') (hb : b < lo ∨ hi ≤ b) : Box w' b m a n cap := ⟨hm.cell h.1 hb, hm.cell h.2 hb⟩
/-- A list lies below a place. -/
def Up (hi : Nat) (a : Option Addr) (l : Nat) : Prop := l = 0 ∨ ∃ B off, a = some ⟨B, off, none⟩ ∧ B < hi
theorem BlsAt.up {w : World} {a : Option Addr} {l : Nat} {V : Nat → Bool} (h : BlsAt w a l V) : Up w.heap.size a l := by
  rcases h with h | ⟨b, off, h1, h2, _⟩
  · exact Or.inl h
  · exact Or.inr ⟨b, off, h1, h2⟩
theorem Up.mono {hi hi' : Nat} {a : Option Addr} {l : Nat} (h : Up hi a l) (hh : hi ≤ hi') : Up hi' a l := by
  rcases h with h | ⟨b, off, h1, h2⟩
  · exact Or.inl h
  · exact Or.inr ⟨b, off, h1, by omega⟩
theorem BlsAt.low {w w' : World} {a : Option Addr} {l lo hi : Nat} {V : Nat → Bool} (h : BlsAt w a l V) (hu : Up lo a l) (hr : Rng lo hi w w') : BlsAt w' a l V := by
  rcases h with h | ⟨b, off, rfl, h2, h3⟩
  · exact Or.inl h
  · rcases hu with hu | ⟨B, o, e, hB⟩
    · exact Or.inl hu
    · cases e
      exact Or.inr ⟨b, off, rfl, Nat.lt_of_lt_of_le h2 hr.size, fun i hi => hr.cell (h3 i hi) (Or.inl hB)⟩
/-- A list that lies alone in a block from base on, and may be written. -/
def OwnB (w : World) (base : Nat) (a : Option Addr) (l : Nat) : Prop := l = 0 ∨ ∃ B, a = some ⟨B, 0, none⟩ ∧ base ≤ B ∧ Made w B l
theorem OwnB.later {w w' : World} {base l : Nat} {a : Option Addr} (h : OwnB w base a l) (hb : Below w.heap.size w w') : OwnB w' base a l := by
  rcases h with h | ⟨B, h1, h2, h3⟩
  · exact Or.inl h
  · exact Or.inr ⟨B, h1, h2, h3.later hb⟩
theorem OwnB.drew {w : World} {base l : Nat} {a : Option Addr} (h : OwnB w base a l) : OwnB w.drew base a l := h
theorem Made.rng {w w' : World} {B m lo hi : Nat} (h : Made w B m) (hr : Rng lo hi w w') (hB : B < lo ∨ hi ≤ B) : Made w' B m :=
  ⟨Nat.lt_of_lt_of_le h.1 hr.size, fun j hj => by obtain ⟨⟨v, hv⟩, hf⟩ := h.2 j hj; exact ⟨⟨v, hr.cell hv hB⟩, hr.frozen hv hB hf⟩⟩
theorem OwnB.high {w w' : World} {base l lo hi : Nat} {a : Option Addr} (h : OwnB w base a l) (hr : Rng lo hi w w') (hh : hi ≤ base) : OwnB w' base a l := by
  rcases h with h | ⟨B, h1, h2, h3⟩
  · exact Or.inl h
  · exact Or.inr ⟨B, h1, h2, h3.rng hr (Or.inr (by omega))⟩
theorem BlsAt.high {w w' : World} {a : Option Addr} {l lo hi base : Nat} {V : Nat → Bool} (h : BlsAt w a l V) (ho : OwnB w base a l) (hr : Rng lo hi w w') (hh : hi ≤ base) : BlsAt w' a l V := by
  rcases h with h | ⟨b, off, rfl, h2, h3⟩
  · exact Or.inl h
  · rcases ho with ho | ⟨B, e, hB, _⟩
    · exact Or.inl ho
    · cases e
      exact Or.inr ⟨b, 0, rfl, Nat.lt_of_lt_of_le h2 hr.size, fun i hi => hr.cell (h3 i hi) (Or.inr (by simp only; omega))⟩
def lenO (o : Option Nat) (N : Nat) : Nat := match o with | some _ => N | none => 0
def valO (o : Option Nat) (N : Nat) : Nat → Bool := match o with | some k => vls N k | none => fun _ => false
/-- What CnfLeast hands back, in one form. -/
def LOut (o : Option Nat) (N base : Nat) (e : Ending) (w' : World) : Prop :=
  ∃ a cap, e = .returned (.tuple #[.slice a (lenO o N) cap, .bool o.isSome]) ∧ BlsAt w' a (lenO o N) (valO o N) ∧ OwnB w' base a (lenO o N)
theorem LPost.out {o : Option Nat} {N base : Nat} {e : Ending} {w' : World} (h : LPost o N base e w') : LOut o N base e w' := by
  rcases h with ⟨k, B, rfl, _, hB, rfl, hb, hm⟩ | ⟨rfl, a, cap, rfl⟩
  · exact ⟨_, _, rfl, hb.at hm.1, Or.inr ⟨B, rfl, hB, hm⟩⟩
  · exact ⟨a, cap, rfl, Or.inl rfl, Or.inl rfl⟩
theorem lenO_le (o : Option Nat) (N : Nat) : lenO o N ≤ N := by cases o <;> simp [lenO]
def mkB (k0 i : Nat) : Bool := decide ((k0 + i) % 3 = 0)
set_option maxHeartbeats 1000000 in
theorem markBoolS_any (a : Option Addr) (l cap base : Nat) (w : World) (ho : OwnB w base a l) (hl : l ≤ 1048576) :
    Calls Try.prog 18 #[.slice a l cap, .int .i64 1] w fun e w' => e = .returned (.int .i64 ((1 + l : Nat) : Int)) ∧ BlsAt w' a l (mkB 1) ∧ OwnB w' base a l ∧ Rng base w.heap.size w w' := by
  rcases ho with rfl | ⟨B, rfl, hB, hm⟩
  · go_enter Try.func18, Try.ntmps18
    go_wp2
    go_loopw [5, 1] (fun i k wr => i = .int .i64 0 ∧ k = .int .i64 1 ∧ wr = w) (fun _ _ _ => 0)
    case atStart => exact ⟨rfl, rfl, rfl⟩
    case round =>
      obtain ⟨rfl, rfl, rfl⟩ := hrel
      go_wp2
      go_ret
      exact ⟨rfl, Or.inl rfl, Or.inl rfl, Rng.refl _ _ _⟩
  · have HM0 := hide hm
    have hB1 := hm.1
    clear hm
    go_enter Try.func18, Try.ntmps18
    go_wp2
    go_loopw [5, 1] (fun i s wr => ∃ k : Nat, k ≤ l ∧ i = .int .i64 k ∧ s = .int .i64 ((1 + k : Nat) : Int) ∧ Bls wr B 0 k (mkB 1) ∧ Made wr B l ∧ Rng base w.heap.size w wr) (fun i _ _ => l - (intOf i).toNat)
    case atStart => exact ⟨0, by omega, rfl, rfl, fun i hi => by omega, unhide HM0, Rng.refl _ _ _⟩
    case round =>
      obtain ⟨k, hk, rfl, rfl, hb, hmd, hr⟩ := hrel
      have HK := hide hb
      have HM := hide hmd
      have HR := hide hr
      clear hb hmd hr
      by_cases hlt : k < l
      · obtain ⟨⟨u0, q0⟩, f0⟩ := (unhide HM).2 k (by omega)
        have HP := hide ((unhide HK).put q0)
        have HV : Hid (mkB 1 k = ((1 + (k : Int)) % 3 == 0)) := by
          show decide _ = _
          by_cases h : (1 + k) % 3 = 0
          · have : (1 + (k : Int)) % 3 = 0 := by omega
            simp [h, this]
          · have : ¬ (1 + (k : Int)) % 3 = 0 := by omega
            simp [h, this]
        have hbr : B < wr.heap.size := (unhide HM).1
        go_wp2
        go_roundw
        case rel => exact ⟨k + 1, by omega, by go_num, by go_num, by rw [← unhide HV]; exact unhide HP, (unhide HM).set _ _, (unhide HR).trans (Rng.mov (Mov.set _ _ _) hB hB1)⟩
        case measure => simp [intOf]; omega
      · have e : k = l := by omega
        subst e
        go_wp2
        go_ret
        exact ⟨rfl, (unhide HK).at (unhide HM).1, Or.inr ⟨B, rfl, hB, unhide HM⟩, unhide HR⟩
set_option maxHeartbeats 1000000 in
theorem heldBoolS_any (a : Option Addr) (l cap : Nat) (w : World) (hb : BlsAt w a l (mkB 1)) (hl : l ≤ 1048576) :
    Calls Try.prog 19 #[.slice a l cap, .int .i64 1] w fun e w' => e = .returned (.int .i64 ((1 + l : Nat) : Int)) ∧ Below w.heap.size w w' := by
  have HB := hide hb
  clear hb
  go_enter Try.func19, Try.ntmps19
  go_wp2
  go_loopw [5, 1] (fun i s wr => ∃ k : Nat, k ≤ l ∧ i = .int .i64 k ∧ s = .int .i64 ((1 + k : Nat) : Int) ∧ Below w.heap.size w wr) (fun i _ _ => l - (intOf i).toNat)
  case atStart => exact ⟨0, by omega, rfl, rfl, (by repeat (first | exact Below.refl _ _ | assumption | refine below_drewN ?_ _ | refine Below.drew ?_ | refine Below.alloc ?_ (by first | exact Nat.le_refl _ | exact Below.size (by assumption) | (simp; done) | (simp; omega)) _ | refine Below.setCell ?_ (by first | exact Nat.le_refl _ | exact Below.size (by assumption) | (simp; done) | (simp; omega)) _ | refine Below.trans ?_ (by assumption)))⟩
  case round =>
    obtain ⟨k, hk, rfl, rfl, hbel⟩ := hrel
    by_cases hlt : k < l
    · obtain ⟨b, off, rfl, hb, hd⟩ := (unhide HB).ok hlt
      have d0 := (hbel.cell (p := ⟨b, off + k, none⟩) hb).trans (hd k hlt)
      have e : mkB 1 k = ((1 + (k : Int)) % 3 == 0) := by
        show decide _ = _
        by_cases h : (1 + k) % 3 = 0
        · have : (1 + (k : Int)) % 3 = 0 := by omega
          simp [h, this]
        · have : ¬ (1 + (k : Int)) % 3 = 0 := by omega
          simp [h, this]
      rw [e] at d0
      clear hd e
      have kb : (((1 + (k : Int)) % 3 == 0) != ((1 + (k : Int)) % 3 == 0)) = false := by simp
      go_wp2
      try go_region
      all_goals try go_wp2
      all_goals go_roundw
      all_goals first | exact ⟨k + 1, by omega, by go_num, by go_num, (by first | exact hbel | exact hbel.drew)⟩ | (simp [intOf]; omega)
    · have e : k = l := by omega
      subst e
      go_wp2
      go_ret
      exact ⟨rfl, hbel⟩
set_option maxHeartbeats 1000000 in
theorem markIntS_any (B l cap : Nat) (k0 : Int) (w : World) (hm : Made w B l) (hl : l ≤ 1048576) (h0 : 0 ≤ k0) (h1 : k0 ≤ 1125899906842624) :
    Calls Try.prog 35 #[.slice (some ⟨B, 0, none⟩) l cap, .int .i64 k0] w fun e w' => e = .returned (.int .i64 (k0 + l)) ∧ Mov B w w' ∧ ∀ b m, Made w b m → Made w' b m := by
  have HM0 := hide hm
  clear hm
  go_enter Try.func35, Try.ntmps35
  go_wp2
  go_loopw [5, 1] (fun i s wr => ∃ k : Nat, k ≤ l ∧ i = .int .i64 k ∧ s = .int .i64 (k0 + k) ∧ Mov B w wr ∧ ∀ b m, Made w b m → Made wr b m) (fun i _ _ => l - (intOf i).toNat)
  case atStart => exact ⟨0, by omega, rfl, by simp, Mov.refl _ _, fun _ _ h => h⟩
  case round =>
    obtain ⟨k, hk, rfl, rfl, hr, hmd⟩ := hrel
    have HR := hide hr
    have HM := hide (hmd _ _ (unhide HM0))
    have HA := hide hmd
    clear hr hmd
    by_cases hlt : k < l
    · obtain ⟨⟨u0, q0⟩, f0⟩ := (unhide HM).2 k (by omega)
      go_wp2
      go_roundw
      case rel => exact ⟨k + 1, by omega, by go_num, by go_num, (unhide HR).trans (Mov.set _ _ _), fun b m h => (unhide HA b m h).set _ _⟩
      case measure => simp [intOf]; omega
    · have e : k = l := by omega
      subst e
      go_wp2
      go_ret
      exact ⟨rfl, unhide HR, unhide HA⟩
set_option maxHeartbeats 1000000 in
theorem markIntSS_any (lo hi B n cap : Nat) (bs L : Nat → Nat) (V : Nat → Nat → Int) (w : World) (hc : Cop w lo B n bs L V) (hB : B < lo) (hn : n ≤ 1048576) (hL : ∀ i, i < n → L i ≤ 1048576) (hh : ∀ i, i < n → bs i < hi) :
    Calls Try.prog 34 #[.slice (some ⟨B, 0, none⟩) n cap, .int .i64 1] w fun e w' => (∃ z : Int, e = .returned (.int .i64 z) ∧ 0 ≤ z) ∧ Rng lo hi w w' := by
  have HC := hide hc
  have HL := hide hL
  have HH := hide hh
  clear hc hL hh
  go_enter Try.func34, Try.ntmps34
  go_wp2
  go_loopw [5, 1] (fun i s wr => ∃ (k : Nat) (z : Int), k ≤ n ∧ i = .int .i64 k ∧ s = .int .i64 z ∧ 0 ≤ z ∧ z ≤ 1 + (k : Int) * 1048576 ∧ (∀ b m, Made w b m → Made wr b m) ∧ Rng lo hi w wr) (fun i _ _ => n - (intOf i).toNat)
  case atStart => exact ⟨0, 1, by omega, rfl, rfl, by omega, by omega, fun _ _ h => h, Rng.refl _ _ _⟩
  case round =>
    obtain ⟨k, z, hk, rfl, rfl, z0, z1, hmd, hr⟩ := hrel
    have HA := hide hmd
    have HR := hide hr
    clear hmd hr
    by_cases hlt : k < n
    · obtain ⟨c0, c1, c2, c3⟩ := unhide HC k hlt
      have d0 := (unhide HR).cell c0 (Or.inl hB)
      have hLk := unhide HL k hlt
      have HM := hide (unhide HA _ _ c2)
      clear c0 c2 c3
      go_wp2_with fail
      refine (markIntS_any _ _ _ _ _ (unhide HM) hLk z0 (by omega)).mono ?_
      rintro e w1 ⟨rfl, mv, ma⟩
      have HR1 := hide ((unhide HR).trans (Rng.mov mv c1 (unhide HH k hlt)))
      have HA1 : Hid (∀ b m, Made w b m → Made w1 b m) := fun b m h => ma b m (unhide HA b m h)
      clear mv ma
      go_wp2
      go_roundw
      case rel => exact ⟨k + 1, z + L k, by omega, by go_num, by go_num, by omega, by omega, unhide HA1, unhide HR1⟩
      case measure => simp [intOf]; omega
    · go_wp2
      go_ret
      exact ⟨⟨_, rfl, z0⟩, unhide HR⟩
set_option maxHeartbeats 1000000 in
theorem markCnf_any (m : Int) (lo hi B n cap : Nat) (bs L : Nat → Nat) (V : Nat → Nat → Int) (w : World) (hc : Cop w lo B n bs L V) (hB : B < lo) (hBw : B < w.heap.size) (hn : n ≤ 1048576) (hL : ∀ i, i < n → L i ≤ 1048576) (hh : ∀ i, i < n → bs i < hi) :
    Calls Try.prog 16 #[.agg #[.int .i64 m, .slice (some ⟨B, 0, none⟩) n cap], .int .i64 1] w fun e w' => (∃ z : Int, e = .returned (.int .i64 z) ∧ 0 ≤ z) ∧ Rng lo hi w w' := by
  have HC := hide hc
  have HL := hide hL
  have HH := hide hh
  clear hc hL hh
  go_enter Try.func16, Try.ntmps16
  go_wp2_with fail
  have BZ : Below w.heap.size w (w.alloc (.cells #[.int .i64 m, .slice (some ⟨B, 0, none⟩) n cap] 36)) := (Below.refl _ _).alloc (Nat.le_refl _) _
  refine (markIntSS_any lo hi _ _ _ bs L V _ ((unhide HC).later BZ) hB hn (unhide HL) (unhide HH)).mono ?_
  rintro e w1 ⟨⟨z, rfl, hz⟩, hr⟩
  have HR := hide ((Rng.of BZ).trans hr)
  clear hr BZ
  go_wp2
  go_ret
  exact ⟨⟨_, rfl, hz⟩, unhide HR⟩
end Go.Proofs.Ytndebifmimbeaab
