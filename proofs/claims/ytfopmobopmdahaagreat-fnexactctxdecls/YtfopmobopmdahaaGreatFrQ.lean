/- Marks of names and terms, copies of names, terms and layers that lie apart: BolA RngA MrkD MrkE ClnA DcpA FrmA FrmB FrmC FrmD FrmE written as one. -/
import Derived.Test.YtfopmobopmdahaaGreatIntA
import Derived.Deep.Grids
import Derived.Test.YtfopmobopmdahaaGreatRd
import Derived.Test.YtfopmobopmdahaaGreatGrwA
import Derived.Test.YtfopmobopmdahaaGreatDecC
import Derived.Deep.AppendLies
import Derived.Laws.Cover4
import Derived.Test.YtfopmobopmdahaaGreatMkA
import Derived.Lib.Strings
import Derived.Lib.BufferWrite
import Derived.Lib.UnsafeStr
import Derived.Laws.MakeOwn
import Derived.Test.YtfopmobopmdahaaGreatDecA
import Derived.Test.YtfopmobopmdahaaGreatTrmB
import Derived.Test.YtfopmobopmdahaaGreatPlA
import Derived.Test.YtfopmobopmdahaaGreatLyQ
namespace Go.Proofs.YtfopmobopmdahaaGreat
open Go.ChangeShapes Go.WideShapes Go.ChangeAt Go.RowKit Go.Joins
set_option linter.unusedVariables false
set_option linter.unusedSimpArgs false
def Bls (w : World) (b off n : Nat) (V : Nat → Bool) : Prop := ∀ i, i < n → w.cell? ⟨b, off + i, none⟩ = some (.bool (V i))
theorem Bls.later {w w' : World} {b off n : Nat} {V : Nat → Bool} (h : Bls w b off n V) (hb : Below w.heap.size w w') : Bls w' b off n V := fun i hi => cell_later hb (h i hi)
theorem Bls.cong {w : World} {b off n : Nat} {V V' : Nat → Bool} (h : Bls w b off n V) (e : ∀ i, i < n → V i = V' i) : Bls w b off n V' := fun i hi => by rw [← e i hi]; exact h i hi
def BlsAt (w : World) (a : Option Addr) (n : Nat) (V : Nat → Bool) : Prop := n = 0 ∨ ∃ b off, a = some ⟨b, off, none⟩ ∧ b < w.heap.size ∧ Bls w b off n V
theorem BlsAt.later {w w' : World} {a : Option Addr} {n : Nat} {V : Nat → Bool} (h : BlsAt w a n V) (hb : Below w.heap.size w w') : BlsAt w' a n V := by
  rcases h with h | ⟨b, off, h1, h2, h3⟩
  · exact Or.inl h
  · exact Or.inr ⟨b, off, h1, Nat.lt_of_lt_of_le h2 hb.size, h3.later hb⟩
theorem BlsAt.ok {w : World} {a : Option Addr} {n k : Nat} {V : Nat → Bool} (h : BlsAt w a n V) (hk : k < n) : ∃ b off, a = some ⟨b, off, none⟩ ∧ b < w.heap.size ∧ Bls w b off n V := h.resolve_left (by omega)
theorem Bls.at {w : World} {b off n : Nat} {V : Nat → Bool} (h : Bls w b off n V) (hb : b < w.heap.size) : BlsAt w (some ⟨b, off, none⟩) n V := Or.inr ⟨b, off, rfl, hb, h⟩
theorem IntsAt.ok {w : World} {a : Option Addr} {n k : Nat} {V : Nat → Int} (h : IntsAt w a n V) (hk : k < n) : ∃ b off, a = some ⟨b, off, none⟩ ∧ b < w.heap.size ∧ Ints w b off n V := h.resolve_left (by omega)
theorem Ints.at {w : World} {b off n : Nat} {V : Nat → Int} (h : Ints w b off n V) (hb : b < w.heap.size) : IntsAt w (some ⟨b, off, none⟩) n V := Or.inr ⟨b, off, rfl, hb, h⟩
theorem Bls.put {w : World} {B k : Nat} {V : Nat → Bool} {u0 : Value} (h : Bls w B 0 k V) (q0 : w.cell? ⟨B, k, none⟩ = some u0) : Bls (w.setCell ⟨B, k, none⟩ (.bool (V k))) B 0 (k + 1) V := by
  intro i hi
  simp only [Nat.zero_add]
  by_cases e : i = k
  · subst e; exact World.cell?_setCell_same _ _ _ q0
  · have hh := h i (by omega)
    simp only [Nat.zero_add] at hh
    rw [World.cell?_setCell_other _ _ _ _ (by simp <;> omega)]; exact hh
/-- Nothing that was there has turned but blocks from lo on and below hi. -/
def Rng (lo hi : Nat) (w w' : World) : Prop := w'.os = w.os ∧ w'.tape = w.tape ∧ w'.output = w.output ∧ w.heap.size ≤ w'.heap.size ∧ ∀ k, k < w.heap.size → (k < lo ∨ hi ≤ k) → w'.heap[k]? = w.heap[k]?
theorem Rng.refl (lo hi : Nat) (w : World) : Rng lo hi w w := ⟨rfl, rfl, rfl, Nat.le_refl _, fun _ _ _ => rfl⟩
theorem Rng.trans {lo hi : Nat} {a b c : World} (h : Rng lo hi a b) (k : Rng lo hi b c) : Rng lo hi a c :=
  ⟨k.1.trans h.1, k.2.1.trans h.2.1, k.2.2.1.trans h.2.2.1, Nat.le_trans h.2.2.2.1 k.2.2.2.1, fun i hi' hR => (k.2.2.2.2 i (Nat.lt_of_lt_of_le hi' h.2.2.2.1) hR).trans (h.2.2.2.2 i hi' hR)⟩
theorem Rng.of {lo hi : Nat} {w w' : World} (h : Below w.heap.size w w') : Rng lo hi w w' := ⟨h.os, h.tape, h.output, h.size, fun i hi _ => h.block i hi⟩
theorem Rng.mov {lo hi R : Nat} {w w' : World} (h : Mov R w w') (h1 : lo ≤ R) (h2 : R < hi) : Rng lo hi w w' := ⟨h.1, h.2.1, h.2.2.1, h.2.2.2.1, fun i hi' hR => h.2.2.2.2 i hi' (by omega)⟩
theorem Rng.below {lo hi B : Nat} {w w' : World} (h : Rng lo hi w w') (hB : B ≤ lo) (hs : B ≤ w.heap.size) : Below B w w' := ⟨h.1, h.2.1, h.2.2.1, h.2.2.2.1, fun i hi' => h.2.2.2.2 i (by omega) (Or.inl (by omega))⟩
theorem Rng.size {lo hi : Nat} {w w' : World} (h : Rng lo hi w w') : w.heap.size ≤ w'.heap.size := h.2.2.2.1
theorem Rng.cell {lo hi : Nat} {w w' : World} (h : Rng lo hi w w') {p : Addr} {v : Value} (hc : w.cell? p = some v) (hR : p.block < lo ∨ hi ≤ p.block) : w'.cell? p = some v :=
  (World.cell?_of_block (w := w) (h.2.2.2.2 p.block (World.block_lt_of_cell? _ _ hc) hR)).trans hc
theorem Rng.frozen {lo hi : Nat} {w w' : World} (h : Rng lo hi w w') {p : Addr} {v : Value} (hc : w.cell? p = some v) (hR : p.block < lo ∨ hi ≤ p.block) (hf : w.frozen? p = false) : w'.frozen? p = false :=
  (World.frozen?_of_block (w := w) (h.2.2.2.2 p.block (World.block_lt_of_cell? _ _ hc) hR)).trans hf
/-- A list lies below a place. -/
def RgUp (hi : Nat) (a : Option Addr) (l : Nat) : Prop := l = 0 ∨ ∃ B off, a = some ⟨B, off, none⟩ ∧ B < hi
theorem BlsAt.up {w : World} {a : Option Addr} {l : Nat} {V : Nat → Bool} (h : BlsAt w a l V) : RgUp w.heap.size a l := by
  rcases h with h | ⟨b, off, h1, h2, _⟩
  · exact Or.inl h
  · exact Or.inr ⟨b, off, h1, h2⟩
theorem RgUp.mono {hi hi' : Nat} {a : Option Addr} {l : Nat} (h : RgUp hi a l) (hh : hi ≤ hi') : RgUp hi' a l := by
  rcases h with h | ⟨b, off, h1, h2⟩
  · exact Or.inl h
  · exact Or.inr ⟨b, off, h1, by omega⟩
theorem BlsAt.low {w w' : World} {a : Option Addr} {l lo hi : Nat} {V : Nat → Bool} (h : BlsAt w a l V) (hu : RgUp lo a l) (hr : Rng lo hi w w') : BlsAt w' a l V := by
  rcases h with h | ⟨b, off, rfl, h2, h3⟩
  · exact Or.inl h
  · rcases hu with hu | ⟨B, o, e, hB⟩
    · exact Or.inl hu
    · cases e
      exact Or.inr ⟨b, off, rfl, Nat.lt_of_lt_of_le h2 hr.size, fun i hi => hr.cell (h3 i hi) (Or.inl hB)⟩
/-- A list that lies alone in a block from base on, and may be written. -/
def OwnB (w : World) (base : Nat) (a : Option Addr) (l : Nat) : Prop := l = 0 ∨ ∃ B, a = some ⟨B, 0, none⟩ ∧ base ≤ B ∧ Made w B l
theorem OwnB.later {w w' : World} {base l : Nat} {a : Option Addr} (h : OwnB w base a l) (hb : Below w.heap.size w w') : OwnB w' base a l := by
  rcases h with h | ⟨B, h1, h2, h3⟩
  · exact Or.inl h
  · exact Or.inr ⟨B, h1, h2, h3.later hb⟩
theorem OwnB.drew {w : World} {base l : Nat} {a : Option Addr} (h : OwnB w base a l) : OwnB w.drew base a l := h
theorem Made.rng {w w' : World} {B m lo hi : Nat} (h : Made w B m) (hr : Rng lo hi w w') (hB : B < lo ∨ hi ≤ B) : Made w' B m :=
  ⟨Nat.lt_of_lt_of_le h.1 hr.size, fun j hj => by obtain ⟨⟨v, hv⟩, hf⟩ := h.2 j hj; exact ⟨⟨v, hr.cell hv hB⟩, hr.frozen hv hB hf⟩⟩
theorem OwnB.high {w w' : World} {base l lo hi : Nat} {a : Option Addr} (h : OwnB w base a l) (hr : Rng lo hi w w') (hh : hi ≤ base) : OwnB w' base a l := by
  rcases h with h | ⟨B, h1, h2, h3⟩
  · exact Or.inl h
  · exact Or.inr ⟨B, h1, h2, h3.rng hr (Or.inr (by omega))⟩
theorem BlsAt.high {w w' : World} {a : Option Addr} {l lo hi base : Nat} {V : Nat → Bool} (h : BlsAt w a l V) (ho : OwnB w base a l) (hr : Rng lo hi w w') (hh : hi ≤ base) : BlsAt w' a l V := by
  rcases h with h | ⟨b, off, rfl, h2, h3⟩
  · exact Or.inl h
  · rcases ho with ho | ⟨B, e, hB, _⟩
    · exact Or.inl ho
    · cases e
      exact Or.inr ⟨b, 0, rfl, Nat.lt_of_lt_of_le h2 hr.size, fun i hi => hr.cell (h3 i hi) (Or.inr (by simp only; omega))⟩
def mkB (k0 i : Nat) : Bool := decide ((k0 + i) % 3 = 0)
set_option maxRecDepth 100000 in
set_option maxHeartbeats 2000000 in
theorem toDeclS_made (a : Option Addr) (n cap : Nat) (S : Nat → ByteArray) (V : Nat → Int) (w : World) (hd : DecsAt w a n S V) (hn : n ≤ 1048576) :
    Calls Tryz.prog 66 #[.slice a n cap] w fun e w' => e = .returned (.slice (some ⟨w.heap.size, 0, none⟩) n n) ∧ Decs w' w.heap.size 0 n S V ∧ Made w' w.heap.size (n * 2) ∧ Below w.heap.size w w' := by
  have hmk := run_make_wide (P := Tryz.prog) 29 40 _ 2 24 Tryz.underlying29 infoDecl .i64 .i64 n (by omega) (by omega)
  rcases hd with rfl | ⟨b, off, rfl, hb, hd⟩
  · simp only [Int.natCast_zero, Nat.zero_mul] at hmk
    go_enter Tryz.func66, Tryz.ntmps66
    go_wp2
    go_loopw [4] (fun i wr => i = .int .i64 0 ∧ wr.heap.size = w.heap.size + 1 ∧ Below w.heap.size w wr) (fun _ _ => 0)
    case atStart => exact ⟨rfl, by simp, (by repeat (first | exact Below.refl _ _ | assumption | refine below_drewN ?_ _ | refine Below.drew ?_ | refine Below.alloc ?_ (by first | exact Nat.le_refl _ | exact Below.size (by assumption) | (simp; done) | (simp; omega)) _ | refine Below.setCell ?_ (by first | exact Nat.le_refl _ | exact Below.size (by assumption) | (simp; done) | (simp; omega)) _ | refine Below.trans ?_ (by assumption)))⟩
    case round =>
      obtain ⟨rfl, hsz, hbel⟩ := hrel
      go_wp2
      go_ret
      exact ⟨rfl, fun i hi => by omega, ⟨by omega, fun j hj => by omega⟩, hbel⟩
  · have HD := hide hd
    clear hd
    go_enter Tryz.func66, Tryz.ntmps66
    go_wp2
    go_loopw [4] (fun i wr => ∃ k : Nat, k ≤ n ∧ i = .int .i64 k ∧ Decs wr w.heap.size 0 k S V ∧ Made wr w.heap.size (n * 2) ∧ Below w.heap.size w wr) (fun i _ => n - (intOf i).toNat)
    case atStart => exact ⟨0, by omega, rfl, fun i hi => by omega, Made.new _ _ _ _, (by repeat (first | exact Below.refl _ _ | assumption | refine below_drewN ?_ _ | refine Below.drew ?_ | refine Below.alloc ?_ (by first | exact Nat.le_refl _ | exact Below.size (by assumption) | (simp; done) | (simp; omega)) _ | refine Below.setCell ?_ (by first | exact Nat.le_refl _ | exact Below.size (by assumption) | (simp; done) | (simp; omega)) _ | refine Below.trans ?_ (by assumption)))⟩
    case round =>
      obtain ⟨k, hk, rfl, hdk, hmd, hbel⟩ := hrel
      have HK := hide hdk
      have HM := hide hmd
      clear hdk hmd
      have hlt0 := (unhide HM).1
      by_cases hlt : k < n
      · obtain ⟨c0, c1⟩ := unhide HD k hlt
        have d0 := (hbel.cell (p := ⟨b, off + k * 2, none⟩) hb).trans c0
        have d1 := (hbel.cell (p := ⟨b, off + k * 2 + 1, none⟩) hb).trans c1
        clear c0 c1
        go_wp2_with fail
        refine (toDecl_any _ _ _).mono ?_
        rintro e w1 ⟨rfl, b1⟩
        have HM1 := hide ((unhide HM).later b1)
        have HK1 := hide ((unhide HK).later b1)
        obtain ⟨⟨u0, q0⟩, f0⟩ := (unhide HM1).2 (k * 2) (by omega)
        obtain ⟨⟨u1, q1⟩, f1⟩ := (unhide HM1).2 (k * 2 + 1) (by omega)
        have l1 := (unhide HM1).1
        go_wp2
        go_roundw
        case rel => exact ⟨k + 1, by omega, by go_num, (unhide HK1).put q0 q1, ((unhide HM1).set _ _).set _ _, ((hbel.trans (b1.mono hbel.size)).setCell (Nat.le_refl _) _).setCell (Nat.le_refl _) _⟩
        case measure => simp [intOf]; omega
      · have e : k = n := by omega
        subst e
        go_wp2
        go_ret
        exact ⟨rfl, unhide HK, unhide HM, hbel⟩
theorem conv_byt (x : Int) (w : World) : (convert 95 9 (.slice (some ⟨w.heap.size, 0, none⟩) 1 1)).run Tryz.prog (w.alloc (.cells #[.int .u8 x] 5)) = .ok (.string (ByteArray.empty.push (UInt8.ofNat x.toNat))) (w.alloc (.cells #[.int .u8 x] 5)) := by
  rw [run_convert_bytes_string _ 95 9 5 _ _ _ Tryz.underlying95 Tryz.underlying5 Tryz.underlying9]
  exact run_bytesToString _ _ _ _ [x] (run_loadCells_list _ _ [.int .u8 x] (cell_one_new _ _ _))
set_option maxRecDepth 100000 in
set_option maxHeartbeats 1000000 in
theorem markText_any (n : Nat) (w : World) (h0 : 0 < n) (h : n < 1000000000) :
    Calls Tryz.prog 46 #[.int .i64 (n : Int)] w fun e w' => (∃ s, e = .returned (.string s) ∧ s.size ≤ 10) ∧ Below w.heap.size w w' := by
  have hcv := conv_byt
  have hd : decide ((n : Int) ≤ 0) = false := by simp; omega
  go_enter Tryz.func46, Tryz.ntmps46
  go_wp2
  go_loopw [0, 3] (fun i t wr => ∃ (k j : Nat) (s : ByteArray), i = .int .i64 (k : Int) ∧ t = .string s ∧ s.size = j ∧ j ≤ 9 ∧ k < 10 ^ (9 - j) ∧ Below w.heap.size w wr) (fun i _ _ => (intOf i).toNat)
  case atStart => exact ⟨n, 0, ByteArray.empty, rfl, rfl, rfl, by omega, by simpa using h, Below.refl _ _⟩
  case round =>
    obtain ⟨k, j, s, rfl, rfl, rfl, hj, hk, hb⟩ := hrel
    have hk9 : k < 1000000000 := Nat.lt_of_lt_of_le hk (Nat.pow_le_pow_right (by omega) (show 9 - s.size ≤ 9 by omega))
    by_cases h9 : 0 < k
    · have hj9 : s.size < 9 := by
        rcases Nat.lt_or_ge s.size 9 with h | h
        · exact h
        · have : 9 - s.size = 0 := by omega
          rw [this] at hk
          simp at hk; omega
      have HK : Hid (k / 10 < 10 ^ (9 - (s.size + 1))) := by
        have e : 9 - s.size = (9 - (s.size + 1)) + 1 := by omega
        rw [e, Nat.pow_succ] at hk
        show _ < _
        omega
      have hg : decide ((k : Int) > 0) = true := by simp; omega
      clear hk
      go_wp2
      go_roundw
      case rel => exact ⟨k / 10, s.size + 1, _, congrArg (Value.int .i64) (by omega), rfl, by simp [ByteArray.size_append, ByteArray.size_push]; omega, by omega, unhide HK, hb.alloc hb.size _⟩
      case measure => simp [intOf]; omega
    · have hg : decide ((k : Int) > 0) = false := by simp; omega
      clear hk
      go_wp2
      go_ret
      exact ⟨⟨_, rfl, by rw [ByteArray.size_append]; have h1 : (ByteArray.mk #[109]).size = 1 := rfl; omega⟩, hb⟩
set_option maxRecDepth 100000 in
set_option maxHeartbeats 1000000 in
theorem markDeclS_from (k0 : Nat) (B n cap : Nat) (w : World) (h0 : 0 < k0) (h1 : k0 ≤ 100000000) (hm : Made w B (n * 2)) (hn : n ≤ 1048576) :
    Calls Tryz.prog 18 #[.slice (some ⟨B, 0, none⟩) n cap, .int .i64 (k0 : Int)] w fun e w' => e = .returned (.int .i64 ((k0 + 2 * n : Nat) : Int)) ∧ Made w' B (n * 2) ∧ Mov B w w' := by
  have HM0 := hide hm
  have hB1 := hm.1
  clear hm
  go_enter Tryz.func18, Tryz.ntmps18
  go_wp2
  go_loopw [5, 1] (fun i s wr => ∃ k : Nat, k ≤ n ∧ i = .int .i64 k ∧ s = .int .i64 ((k0 + 2 * k : Nat) : Int) ∧ Made wr B (n * 2) ∧ Mov B w wr) (fun i _ _ => n - (intOf i).toNat)
  case atStart => exact ⟨0, by omega, rfl, rfl, unhide HM0, Mov.refl _ _⟩
  case round =>
    obtain ⟨k, hk, rfl, rfl, hmd, hv⟩ := hrel
    have HM := hide hmd
    have HV := hide hv
    clear hmd hv
    by_cases hlt : k < n
    · go_wp2_with fail
      refine (markText_any (k0 + 2 * k) _ (by omega) (by omega)).mono ?_
      rintro e w1 ⟨⟨s, rfl, hs⟩, b1⟩
      have HM1 := hide ((unhide HM).later b1)
      obtain ⟨⟨u0, q0⟩, f0⟩ := (unhide HM1).2 (k * 2) (by omega)
      obtain ⟨⟨u1, q1⟩, f1⟩ := (unhide HM1).2 (k * 2 + 1) (by omega)
      have HV1 := hide ((unhide HV).trans (Mov.of b1))
      have hs2 := hs
      clear b1
      go_wp2
      go_roundw
      case rel => exact ⟨k + 1, by omega, by go_num, by first | rfl | go_num, ((unhide HM1).set _ _).set _ _, ((unhide HV1).trans (Mov.set _ _ _)).trans (Mov.set _ _ _)⟩
      case measure => simp [intOf]; omega
    · have e : k = n := by omega
      subst e
      go_wp2
      go_ret
      exact ⟨rfl, unhide HM, unhide HV⟩
/-- The digits of a number ahead of a text. -/
def mkA : Nat → Nat → ByteArray → ByteArray
  | 0, _, s => s
  | f + 1, k, s => if k = 0 then s else mkA f (k / 10) ((ByteArray.empty.push (48 + UInt8.ofNat (k % 10))) ++ s)
/-- The text of a mark. -/
def mkT (n : Nat) : ByteArray := ⟨#[109]⟩ ++ mkA 10 n ⟨#[]⟩
theorem mkA_zero (f : Nat) (s : ByteArray) : mkA f 0 s = s := by cases f <;> simp [mkA]
set_option maxRecDepth 100000 in
set_option maxHeartbeats 1000000 in
theorem markText_is (n : Nat) (w : World) (h0 : 0 < n) (h : n < 1000000000) :
    Calls Tryz.prog 46 #[.int .i64 (n : Int)] w fun e w' => e = .returned (.string (mkT n)) ∧ Below w.heap.size w w' := by
  have hcv := conv_byt
  have hd : decide ((n : Int) ≤ 0) = false := by simp; omega
  go_enter Tryz.func46, Tryz.ntmps46
  go_wp2
  go_loopw [0, 3] (fun i t wr => ∃ (k j : Nat) (s : ByteArray), i = .int .i64 (k : Int) ∧ t = .string s ∧ s.size = j ∧ j ≤ 9 ∧ k < 10 ^ (9 - j) ∧ mkA (10 - j) k s = mkA 10 n ⟨#[]⟩ ∧ Below w.heap.size w wr) (fun i _ _ => (intOf i).toNat)
  case atStart => exact ⟨n, 0, ⟨#[]⟩, rfl, rfl, rfl, by omega, by simpa using h, rfl, Below.refl _ _⟩
  case round =>
    obtain ⟨k, j, s, rfl, rfl, rfl, hj, hk, hmk, hb⟩ := hrel
    have hk9 : k < 1000000000 := Nat.lt_of_lt_of_le hk (Nat.pow_le_pow_right (by omega) (show 9 - s.size ≤ 9 by omega))
    by_cases h9 : 0 < k
    · have hj9 : s.size < 9 := by
        rcases Nat.lt_or_ge s.size 9 with h | h
        · exact h
        · have : 9 - s.size = 0 := by omega
          rw [this] at hk
          simp at hk; omega
      have HK : Hid (k / 10 < 10 ^ (9 - (s.size + 1))) := by
        have e : 9 - s.size = (9 - (s.size + 1)) + 1 := by omega
        rw [e, Nat.pow_succ] at hk
        show _ < _
        omega
      have HM : Hid (mkA (10 - (s.size + 1)) (k / 10) ((ByteArray.empty.push (48 + UInt8.ofNat (k % 10))) ++ s) = mkA 10 n ⟨#[]⟩) := by
        show _ = _
        rw [← hmk, show 10 - s.size = (10 - (s.size + 1)) + 1 by omega]
        rw [mkA, if_neg (by omega)]
      have hg : decide ((k : Int) > 0) = true := by simp; omega
      clear hk hmk
      go_wp2
      go_roundw
      case rel =>
        refine ⟨k / 10, s.size + 1, (ByteArray.empty.push (48 + UInt8.ofNat (k % 10))) ++ s, congrArg (Value.int .i64) (by omega), rfl, by simp [ByteArray.size_append, ByteArray.size_push]; omega, by omega, unhide HK, unhide HM, hb.alloc hb.size _⟩
      case measure => simp [intOf]; omega
    · have hg : decide ((k : Int) > 0) = false := by simp; omega
      have hk0 : k = 0 := by omega
      subst hk0
      rw [mkA_zero] at hmk
      have HM : Hid (mkT n = ⟨#[109]⟩ ++ s) := by show _ = _; unfold mkT; rw [hmk]
      clear hk hmk
      go_wp2
      rw [unhide HM]
      go_ret
      exact ⟨rfl, hb⟩
/-- Names as the laws mark them, from a number on. -/
def MkD (k0 : Nat) (i : Nat) : ByteArray := mkT (k0 + 2 * i)
def MkV (k0 : Nat) (i : Nat) : Int := ((k0 + 2 * i + 1 : Nat) : Int)
set_option maxRecDepth 100000 in
set_option maxHeartbeats 1000000 in
theorem markDeclS_is (k0 : Nat) (B n cap : Nat) (w : World) (h0 : 0 < k0) (h1 : k0 ≤ 100000000) (hm : Made w B (n * 2)) (hn : n ≤ 1048576) :
    Calls Tryz.prog 18 #[.slice (some ⟨B, 0, none⟩) n cap, .int .i64 (k0 : Int)] w fun e w' => e = .returned (.int .i64 ((k0 + 2 * n : Nat) : Int)) ∧ Decs w' B 0 n (MkD k0) (MkV k0) ∧ Made w' B (n * 2) ∧ Mov B w w' := by
  have HM0 := hide hm
  have hB1 := hm.1
  clear hm
  go_enter Tryz.func18, Tryz.ntmps18
  go_wp2
  go_loopw [5, 1] (fun i s wr => ∃ k : Nat, k ≤ n ∧ i = .int .i64 k ∧ s = .int .i64 ((k0 + 2 * k : Nat) : Int) ∧ Decs wr B 0 k (MkD k0) (MkV k0) ∧ Made wr B (n * 2) ∧ Mov B w wr) (fun i _ _ => n - (intOf i).toNat)
  case atStart => exact ⟨0, by omega, rfl, rfl, fun i hi => by omega, unhide HM0, Mov.refl _ _⟩
  case round =>
    obtain ⟨k, hk, rfl, rfl, hdk, hmd, hv⟩ := hrel
    have HM := hide hmd
    have HV := hide hv
    have HD := hide hdk
    clear hmd hv hdk
    by_cases hlt : k < n
    · go_wp2_with fail
      refine (markText_is (k0 + 2 * k) _ (by omega) (by omega)).mono ?_
      rintro e w1 ⟨rfl, b1⟩
      have HM1 := hide ((unhide HM).later b1)
      have HD1 := hide ((unhide HD).later b1)
      obtain ⟨⟨u0, q0⟩, f0⟩ := (unhide HM1).2 (k * 2) (by omega)
      obtain ⟨⟨u1, q1⟩, f1⟩ := (unhide HM1).2 (k * 2 + 1) (by omega)
      have HV1 := hide ((unhide HV).trans (Mov.of b1))
      have HP := hide ((unhide HD1).put (S := MkD k0) (V := MkV k0) q0 q1)
      clear b1
      go_wp2
      go_roundw
      case rel => exact ⟨k + 1, by omega, by go_num, by first | rfl | go_num, unhide HP, ((unhide HM1).set _ _).set _ _, ((unhide HV1).trans (Mov.set _ _ _)).trans (Mov.set _ _ _)⟩
      case measure => simp [intOf]; omega
    · have e : k = n := by omega
      subst e
      go_wp2
      go_ret
      exact ⟨rfl, unhide HD, unhide HM, unhide HV⟩
set_option maxRecDepth 100000 in
set_option maxHeartbeats 2000000 in
theorem heldDeclS_is (k0 : Nat) (B n cap : Nat) (w : World) (h0 : 0 < k0) (h1 : k0 ≤ 100000000) (hd : Decs w B 0 n (MkD k0) (MkV k0)) (hB : B < w.heap.size) (hn : n ≤ 1048576) :
    Calls Tryz.prog 19 #[.slice (some ⟨B, 0, none⟩) n cap, .int .i64 (k0 : Int)] w fun e w' => e = .returned (.int .i64 ((k0 + 2 * n : Nat) : Int)) ∧ Below w.heap.size w w' := by
  have HD := hide hd
  clear hd
  go_enter Tryz.func19, Tryz.ntmps19
  go_wp2
  go_loopw [5, 1] (fun i s wr => ∃ k : Nat, k ≤ n ∧ i = .int .i64 k ∧ s = .int .i64 ((k0 + 2 * k : Nat) : Int) ∧ Below w.heap.size w wr) (fun i _ _ => n - (intOf i).toNat)
  case atStart => exact ⟨0, by omega, rfl, rfl, Below.refl _ _⟩
  case round =>
    obtain ⟨k, hk, rfl, rfl, hbel⟩ := hrel
    by_cases hlt : k < n
    · obtain ⟨c0, c1⟩ := unhide HD k hlt
      rw [Nat.zero_add] at c0 c1
      have d0 := (hbel.cell (p := ⟨B, k * 2, none⟩) hB).trans c0
      have d1 := (hbel.cell (p := ⟨B, k * 2 + 1, none⟩) hB).trans c1
      have e0 : MkD k0 k = mkT (k0 + 2 * k) := rfl
      have e1 : MkV k0 k = ((k0 + 2 * k + 1 : Nat) : Int) := rfl
      rw [e0] at d0
      rw [e1] at d1
      have lb := Nat.lt_of_lt_of_le hB hbel.size
      clear c0 c1 e0 e1
      generalize hT : mkT (k0 + 2 * k) = tx at *
      have HT := hide hT
      have kt : (tx.toList != tx.toList) = false := by simp
      clear hT
      go_wp2
      go_region_held3 (fun w' => w'.cell? ⟨B, k * 2, none⟩ = some (.string tx) ∧ w'.cell? ⟨B, k * 2 + 1, none⟩ = some (.int .i64 ((k0 + 2 * k + 1 : Nat) : Int))) (first | go_keep | exact ⟨d0, d1⟩)
        (first | (go_at_call 46; refine (markText_is (k0 + 2 * k) _ (by omega) (by omega)).mono ?_; rintro e wq ⟨rfl, bq⟩; rw [unhide HT]; have BL := (by first | exact hbel.trans (bq.mono hbel.size) | exact hbel.drew.trans (bq.mono hbel.size)); have d0 := cell_later bq (by exact d0); have d1 := cell_later bq (by exact d1)))
      all_goals go_wp2
      all_goals go_roundw
      all_goals first | exact ⟨k + 1, by omega, by go_num, by first | rfl | go_num, (by first | exact BL | exact BL.drew)⟩ | (simp [intOf]; omega)
    · have e : k = n := by omega
      subst e
      go_wp2
      go_ret
      exact ⟨rfl, hbel⟩
theorem infoByt : (Tryz.prog.info? 5).map (fun i => (i.zero, i.size, i.bytes)) = some (some (.int .u8 0), 1, 1) := by kernel_rfl
theorem infoBytSize : (Tryz.prog.info? 5).map (·.size) = some 1 := by kernel_rfl
theorem cellsByt : Tryz.prog.cellsOf 5 = 1 := by
  unfold Program.cellsOf
  have h := infoBytSize
  obtain ⟨i, hi, hz⟩ := Option.map_eq_some_iff.1 h
  rw [hi]; exact hz
set_option maxRecDepth 100000 in
set_option maxHeartbeats 4000000 in
theorem liteClone_any (s : ByteArray) (w : World) (hlim : s.size ≤ 281474976710656) :
    Calls Tryz.prog 78 #[.string s] w fun e w' => e = .returned (.string s) ∧ Below w.heap.size w w' := by
  by_cases h0 : s.size = 0
  · have hs : s = ⟨#[]⟩ := by
      apply ByteArray.ext
      exact Array.eq_empty_of_size_eq_zero h0
    subst hs
    go_enter Tryz.func78, Tryz.ntmps78
    go_wp2
    go_ret
    exact ⟨rfl, Below.refl _ _⟩
  · obtain ⟨M, hM⟩ : ∃ M, M = madeCells (Value.int .u8 0).cells (s.size * 1) := ⟨_, rfl⟩
    have hMs : M.size = s.size := by rw [hM, size_madeCells]; simp
    have hmk : ∀ W : World, (Instr.makeSlice 95 (.int .i64 (s.size : Int)) (.int .i64 (s.size : Int))).run Tryz.prog W = .ok (.slice (some ⟨W.heap.size, 0, none⟩) s.size s.size) (W.alloc (.cells M 5)) := fun W => by
      have h := run_make_wide (P := Tryz.prog) 95 5 _ 1 1 Tryz.underlying95 infoByt .i64 .i64 s.size (by omega) (by omega) W
      rw [← hM] at h
      exact h
    clear hM
    have hcp := Lib.run_copy_row_string (P := Tryz.prog) (w.alloc (.cells M 5)) 95 9 3 5 w.heap.size 0 s.size s.size s M 5 Tryz.underlying95 infoBytSize (heap_alloc_new w _) (Nat.le_refl _) (by omega)
    obtain ⟨Y, hY⟩ : ∃ Y, Y = (M.toList.take 0 ++ Lib.byteCells s.data.toList ++ M.toList.drop (0 + s.size)).toArray := ⟨_, rfl⟩
    rw [← hY] at hcp
    have hYl : Y.toList = Lib.byteCells s.data.toList := by
      rw [hY, List.toList_toArray, List.take_zero, List.nil_append, List.drop_of_length_le (by rw [Array.length_toList]; omega), List.append_nil]
    have hYs : Y.size = s.size := by rw [← Array.length_toList, hYl, Lib.byteCells_length, ← Lib.size_eq]
    have hgY : ((w.alloc (.cells M 5)).setRow w.heap.size Y).heap[w.heap.size]? = some (.cells Y 5 (0, 0)) := setRow_heap _ _ M _ 5 (0, 0) (heap_alloc_new w _)
    have hne : s.data.toList ≠ [] := fun e => h0 (by rw [Lib.size_eq, e]; rfl)
    have hUS := Lib.run_unsafeString_row (P := Tryz.prog) ((w.alloc (.cells M 5)).setRow w.heap.size Y) 116 3 9 5 Tryz.underlying116 cellsByt w.heap.size Y.size (by unfold World.shape?; rw [hgY]) s.data.toList hne (by rw [← Lib.size_eq]; omega) (by rw [← Lib.size_eq]; omega)
      (fun j x hx => Lib.cells_of_row hgY Y.size j _ (by rw [List.take_of_length_le (by rw [Array.length_toList]; exact Nat.le_refl _), hYl]; simp [Lib.byteCells, hx]))
    rw [← Lib.size_eq] at hUS
    clear hY
    have hd : ((s.size : Nat) : Int) ≠ 0 := by omega
    go_enter Tryz.func78, Tryz.ntmps78
    go_wp2
    go_ret
    have hb1 : Below w.heap.size w (w.alloc (.cells M 5)) := (Below.refl _ w).alloc (Nat.le_refl _) _
    have hb2 : Below w.heap.size (w.alloc (.cells M 5)) ((w.alloc (.cells M 5)).setRow w.heap.size Y) := ⟨rfl, rfl, rfl, by simp, fun k hk => setRow_other _ _ _ _ (by omega)⟩
    exact ⟨rfl, Lib.below_freeze (hb1.trans hb2) (p := ⟨w.heap.size, 0, none⟩) (Nat.le_refl _) _⟩
set_option maxRecDepth 100000 in
set_option maxHeartbeats 4000000 in
theorem textClone_any (s : ByteArray) (w : World) (hlim : s.size ≤ 281474976710656) :
    Calls Tryz.prog 68 #[.string s] w fun e w' => e = .returned (.string s) ∧ Below w.heap.size w w' := by
  go_enter Tryz.func68, Tryz.ntmps68
  go_wp2_with (fail)
  refine (liteClone_any s w hlim).mono ?_
  rintro r W ⟨rfl, hb⟩
  go_wp2
  go_ret
  exact ⟨rfl, hb⟩
theorem infoDec2 : (Tryz.prog.info? 40).map (fun i => (i.zero, i.size, i.bytes)) = some (some (.agg #[.string ByteArray.empty, .int .i64 0]), 2, 24) := by kernel_rfl
set_option maxRecDepth 100000 in
set_option maxHeartbeats 4000000 in
theorem declsCopy_any (a : Option Addr) (n cap : Nat) (S : Nat → ByteArray) (V : Nat → Int) (w : World) (hd : DecsAt w a n S V) (hn : n ≤ 1048576) (hs : ∀ i, i < n → (S i).size ≤ 281474976710656) :
    Calls Tryz.prog 43 #[.slice a n cap] w fun e w' => e = .returned (.slice (some ⟨w.heap.size, 0, none⟩) n n) ∧ Decs w' w.heap.size 0 n S V ∧ Made w' w.heap.size (n * 2) ∧ Below w.heap.size w w' := by
  have hmk := run_make_wide (P := Tryz.prog) 29 40 _ 2 24 Tryz.underlying29 infoDec2 .i64 .i64 n (by omega) (by omega)
  have HS := hide hs
  clear hs
  rcases hd with rfl | ⟨b, off, rfl, hb, hd⟩
  · simp only [Int.natCast_zero, Nat.zero_mul] at hmk
    go_enter Tryz.func43, Tryz.ntmps43
    go_wp2
    go_loopw [11] (fun i wr => i = .int .i64 0 ∧ Made wr w.heap.size 0 ∧ Below w.heap.size w wr) (fun _ _ => 0)
    case atStart => exact ⟨rfl, ⟨by simp, fun j hj => by omega⟩, (by repeat (first | exact Below.refl _ _ | assumption | refine below_drewN ?_ _ | refine Below.drew ?_ | refine Below.alloc ?_ (by first | exact Nat.le_refl _ | exact Below.size (by assumption) | (simp; done) | (simp; omega)) _ | refine Below.setCell ?_ (by first | exact Nat.le_refl _ | exact Below.size (by assumption) | (simp; done) | (simp; omega)) _ | refine Below.trans ?_ (by assumption)))⟩
    case round =>
      obtain ⟨rfl, hmd, hbel⟩ := hrel
      go_wp2
      go_ret
      exact ⟨rfl, fun i hi => by omega, hmd, hbel⟩
  · have HD := hide hd
    clear hd
    go_enter Tryz.func43, Tryz.ntmps43
    go_wp2
    go_loopw [11] (fun i wr => ∃ k : Nat, k ≤ n ∧ i = .int .i64 k ∧ Decs wr w.heap.size 0 k S V ∧ Made wr w.heap.size (n * 2) ∧ Below w.heap.size w wr) (fun i _ => n - (intOf i).toNat)
    case atStart => exact ⟨0, by omega, rfl, fun i hi => by omega, Made.new _ _ _ _, (by repeat (first | exact Below.refl _ _ | assumption | refine below_drewN ?_ _ | refine Below.drew ?_ | refine Below.alloc ?_ (by first | exact Nat.le_refl _ | exact Below.size (by assumption) | (simp; done) | (simp; omega)) _ | refine Below.setCell ?_ (by first | exact Nat.le_refl _ | exact Below.size (by assumption) | (simp; done) | (simp; omega)) _ | refine Below.trans ?_ (by assumption)))⟩
    case round =>
      obtain ⟨k, hk, rfl, hdk, hmd, hbel⟩ := hrel
      have HK := hide hdk
      have HM := hide hmd
      clear hdk hmd
      have hlt0 := (unhide HM).1
      by_cases hlt : k < n
      · obtain ⟨c0, c1⟩ := unhide HD k hlt
        have d0 := (hbel.cell (p := ⟨b, off + k * 2, none⟩) hb).trans c0
        have d1 := (hbel.cell (p := ⟨b, off + k * 2 + 1, none⟩) hb).trans c1
        clear c0 c1
        have hsk := unhide HS k hlt
        obtain ⟨v, hv⟩ : ∃ v, v = wr.alloc (.cells #[.string (S k), .int .i64 (V k)] 40) := ⟨_, rfl⟩
        have p0 : v.cell? ⟨wr.heap.size, 0, none⟩ = some (.string (S k)) := by rw [hv, World.cell?_alloc_new]; rfl
        have p1 : v.cell? ⟨wr.heap.size, 1, none⟩ = some (.int .i64 (V k)) := by rw [hv, World.cell?_alloc_new]; rfl
        have bv : Below wr.heap.size wr v := by rw [hv]; exact (Below.refl _ _).alloc (Nat.le_refl _) _
        have HB := hide (hbel.trans (bv.mono hbel.size))
        have HM1 := hide ((unhide HM).later bv)
        have HK1 := hide ((unhide HK).later bv)
        obtain ⟨⟨u0, q0⟩, f0⟩ := (unhide HM1).2 (k * 2) (by omega)
        obtain ⟨⟨u1, q1⟩, f1⟩ := (unhide HM1).2 (k * 2 + 1) (by omega)
        have l1 := (unhide HM1).1
        have HV := hide hv
        have hne : w.heap.size ≠ wr.heap.size := by omega
        have hne' : wr.heap.size ≠ w.heap.size := by omega
        clear hv bv hbel
        go_wp2
        rw [← unhide HV]
        clear HV
        go_region_held3 (fun w' => w'.cell? ⟨wr.heap.size, 0, none⟩ = some (.string (S k)) ∧ w'.cell? ⟨wr.heap.size, 1, none⟩ = some (.int .i64 (V k))) (first | exact ⟨p0, p1⟩ | go_keep)
          (first | (go_at_call 68; refine (textClone_any (S k) _ hsk).mono ?_; rintro e wq ⟨rfl, bq⟩; have p0 := cell_later bq (by exact p0); have p1 := cell_later bq (by exact p1); have q0 := cell_later bq (by exact q0); have q1 := cell_later bq (by exact q1); have f0 := (bq.frozen (p := ⟨w.heap.size, k * 2, none⟩) (by exact l1)).trans (by exact f0); have f1 := (bq.frozen (p := ⟨w.heap.size, k * 2 + 1, none⟩) (by exact l1)).trans (by exact f1); have HM1 := hide (Made.later (by exact unhide HM1) bq); have HK1 := hide (Decs.later (by exact unhide HK1) bq); have l1 := (unhide HM1).1; have HB := hide (show Below w.heap.size w wq from (by first | exact (unhide HB).trans (bq.mono (unhide HB).size) | exact (unhide HB).drew.trans (bq.mono (unhide HB).size)))))
        all_goals
          go_wp2
          go_roundw
          · exact ⟨k + 1, by omega, by go_num, (unhide HK1).put q0 q1, ((unhide HM1).set _ _).set _ _, ((unhide HB).setCell (Nat.le_refl _) _).setCell (Nat.le_refl _) _⟩
          · simp [intOf]; omega
      · have e : k = n := by omega
        subst e
        go_wp2
        go_ret
        exact ⟨rfl, unhide HK, unhide HM, hbel⟩
theorem Made.blk {w w' : World} {B m : Nat} (h : Made w B m) (hs : w.heap.size ≤ w'.heap.size) (hk : w'.heap[B]? = w.heap[B]?) : Made w' B m :=
  ⟨Nat.lt_of_lt_of_le h.1 hs, fun j hj => ⟨(h.2 j hj).1.imp fun v hv => (World.cell?_of_block (w := w) (a := ⟨B, j, none⟩) hk).trans hv, (World.frozen?_of_block (w := w) (a := ⟨B, j, none⟩) hk).trans (h.2 j hj).2⟩⟩
theorem stairs {C : Nat → Nat} {n : Nat} (h : ∀ i, i < n → C i ≤ C (i + 1)) : ∀ i j, i ≤ j → j ≤ n → C i ≤ C j := by
  intro i j hij
  induction j with
  | zero => intro _; have : i = 0 := by omega
            subst this; exact Nat.le_refl _
  | succ j ih =>
    intro hj
    by_cases e : i = j + 1
    · subst e; exact Nat.le_refl _
    · exact Nat.le_trans (ih (by omega) (by omega)) (h j (by omega))
/-- The Kids lie apart: their list in a block of its own, each Kid's Kids in a range of its own behind it. -/
def TT.Fr (w : World) : TT → Nat → Nat → Option Addr → Prop
  | .nil, _, _, _ => False
  | .node _ _ _ _ n kid, lo, hi, ad => n = 0 ∨ ∃ B, ad = some ⟨B, 0, none⟩ ∧ lo ≤ B ∧ Made w B (n * 5) ∧ ∃ (AD : Nat → Option Addr) (CP C : Nat → Nat), B < C 0 ∧ (∀ i, i < n → C i ≤ C (i + 1)) ∧ C n ≤ hi ∧ ∀ i, i < n → w.cell? ⟨B, i * 5 + 4, none⟩ = some (.slice (AD i) (kid i).n (CP i)) ∧ (kid i).Fr w (C i) (C (i + 1)) (AD i)
theorem TT.Fr.keep {w w' : World} (hs : w.heap.size ≤ w'.heap.size) : ∀ (t : TT) (lo hi : Nat) (ad : Option Addr), (∀ b, lo ≤ b → b < hi → w'.heap[b]? = w.heap[b]?) → t.Fr w lo hi ad → t.Fr w' lo hi ad
  | .nil, _, _, _, _, h => h.elim
  | .node _ _ _ _ n kid, lo, hi, ad, hk, h => by
    rcases h with h | ⟨B, h1, h2, hm, AD, CP, C, h3, h4, h5, h6⟩
    · exact Or.inl h
    · have hC := fun i (hi' : i ≤ n) => stairs h4 0 i (Nat.zero_le _) hi'
      have hD := fun i (hi' : i ≤ n) => stairs h4 i n hi' (Nat.le_refl _)
      have hB : w'.heap[B]? = w.heap[B]? := hk B h2 (by have := hC n (Nat.le_refl _); omega)
      refine Or.inr ⟨B, h1, h2, hm.blk hs hB, AD, CP, C, h3, h4, h5, fun i hi' => ⟨(World.cell?_of_block (w := w) (a := ⟨B, i * 5 + 4, none⟩) hB).trans (h6 i hi').1, ?_⟩⟩
      refine TT.Fr.keep hs (kid i) _ _ _ (fun b hb1 hb2 => hk b ?_ ?_) (h6 i hi').2
      · have := hC i (by omega); omega
      · have := hD (i + 1) (by omega); omega
theorem TT.Fr.later {w w' : World} {t : TT} {lo hi : Nat} {ad : Option Addr} (h : t.Fr w lo hi ad) (hb : Below hi w w') : t.Fr w' lo hi ad := TT.Fr.keep hb.size t lo hi ad (fun b _ h2 => hb.block b h2) h
theorem TT.Fr.wide {w : World} {lo hi lo' hi' : Nat} {t : TT} {ad : Option Addr} (h : t.Fr w lo hi ad) (hl : lo' ≤ lo) (hh : hi ≤ hi') : t.Fr w lo' hi' ad := by
  cases t with
  | nil => exact h.elim
  | node op a b s n kid =>
    rcases h with h | ⟨B, h1, h2, hm, AD, CP, C, h3, h4, h5, h6⟩
    · exact Or.inl h
    · exact Or.inr ⟨B, h1, by omega, hm, AD, CP, C, h3, h4, by omega, h6⟩
theorem TT.Fr.node_N {w : World} {lo hi : Nat} {t : TT} {ad : Option Addr} (h : t.Fr w lo hi ad) : 1 ≤ t.N := by
  cases t with
  | nil => exact h.elim
  | node op a b s n kid => rw [TT.N_node]; omega
theorem Rng.widen {lo hi lo' hi' : Nat} {w w' : World} (h : Rng lo hi w w') (hl : lo' ≤ lo) (hh : hi ≤ hi') : Rng lo' hi' w w' := ⟨h.1, h.2.1, h.2.2.1, h.2.2.2.1, fun k hk hR => h.2.2.2.2 k hk (by omega)⟩
/-- The Kids from one on, and the list's cells, as the marks find them. -/
def KidsFr (w : World) (B j n : Nat) (kid : Nat → TT) (AD : Nat → Option Addr) (CP C : Nat → Nat) : Prop :=
  Made w B (n * 5) ∧ (∀ i, i ≤ n → B < C i ∧ C i ≤ w.heap.size) ∧ (∀ i, i < n → C i ≤ C (i + 1)) ∧ ∀ i, j ≤ i → i < n → w.cell? ⟨B, i * 5 + 4, none⟩ = some (.slice (AD i) (kid i).n (CP i)) ∧ (kid i).Fr w (C i) (C (i + 1)) (AD i)
theorem KidsFr.later {w w' : World} {B j n : Nat} {kid : Nat → TT} {AD : Nat → Option Addr} {CP C : Nat → Nat} (h : KidsFr w B j n kid AD CP C) (hb : Below w.heap.size w w') : KidsFr w' B j n kid AD CP C :=
  ⟨h.1.later hb, fun i hi => ⟨(h.2.1 i hi).1, Nat.le_trans (h.2.1 i hi).2 hb.size⟩, h.2.2.1, fun i h1 h2 => ⟨cell_later hb (h.2.2.2 i h1 h2).1, (h.2.2.2 i h1 h2).2.later (hb.mono (h.2.1 (i + 1) h2).2)⟩⟩
theorem KidsFr.set {w : World} {B j n : Nat} {kid : Nat → TT} {AD : Nat → Option Addr} {CP C : Nat → Nat} (h : KidsFr w B j n kid AD CP C) (o : Nat) (ho : o % 5 ≠ 4) (v : Value) : KidsFr (w.setCell ⟨B, o, none⟩ v) B j n kid AD CP C := by
  refine ⟨h.1.set _ _, fun i hi => by simpa using h.2.1 i hi, h.2.2.1, fun i h1 h2 => ⟨?_, ?_⟩⟩
  · rw [World.cell?_setCell_other _ _ _ _ (by simp <;> omega)]
    exact (h.2.2.2 i h1 h2).1
  · have hm : Mov B w (w.setCell ⟨B, o, none⟩ v) := Mov.set _ _ _
    have hB := (h.2.1 i (by omega)).1
    have hC := (h.2.1 (i + 1) h2).2
    exact TT.Fr.keep hm.2.2.2.1 _ _ _ _ (fun b hb1 hb2 => hm.2.2.2.2 b (by omega) (by omega)) (h.2.2.2 i h1 h2).2
theorem KidsFr.next {w w' : World} {B j n : Nat} {kid : Nat → TT} {AD : Nat → Option Addr} {CP C : Nat → Nat} (h : KidsFr w B j n kid AD CP C) (hj : j < n) (hr : Rng (C j) (C (j + 1)) w w') : KidsFr w' B (j + 1) n kid AD CP C := by
  have hB := (h.2.1 j (by omega)).1
  have hk := hr.2.2.2.2 B h.1.1 (Or.inl hB)
  refine ⟨h.1.blk hr.size hk, fun i hi => ⟨(h.2.1 i hi).1, Nat.le_trans (h.2.1 i hi).2 hr.size⟩, h.2.2.1, fun i h1 h2 => ⟨hr.cell (h.2.2.2 i (by omega) h2).1 (Or.inl hB), ?_⟩⟩
  have hs := stairs h.2.2.1 (j + 1) i h1 (by omega)
  have hC := (h.2.1 (i + 1) h2).2
  exact TT.Fr.keep hr.size _ _ _ _ (fun b hb1 hb2 => hr.2.2.2.2 b (by omega) (Or.inr (by omega))) (h.2.2.2 i (by omega) h2).2
set_option maxRecDepth 100000 in
set_option maxHeartbeats 4000000 in
theorem markTermS_any (t : TT) : ∀ (lo hi : Nat) (ad : Option Addr) (cp k0 : Nat) (w : World), t.Fr w lo hi ad → hi ≤ w.heap.size → 0 < k0 → k0 + 4 * t.N ≤ 100000000 →
    Calls Tryz.prog 45 #[.slice ad t.n cp, .int .i64 (k0 : Int)] w fun e w' => e = .returned (.int .i64 ((k0 + 4 * (t.N - 1) : Nat) : Int)) ∧ Rng lo hi w w' := by
  induction t with
  | nil => intro lo hi ad cp k0 w h; exact h.elim
  | node op a b s n kid ih =>
    intro lo hi ad cp k0 w hfr hhi h0 h1
    rw [TT.N_node] at h1 ⊢
    rw [show 1 + sumN (fun i => (kid i).N) n - 1 = sumN (fun i => (kid i).N) n by omega]
    show Calls Tryz.prog 45 #[.slice ad n cp, .int .i64 (k0 : Int)] w _
    have IH := hide ih
    clear ih
    rcases hfr with rfl | ⟨B, rfl, hlo, hmd, AD, CP, C, hBC, hst, hCn, hkid⟩
    · go_enter Tryz.func45, Tryz.ntmps45
      go_wp2
      go_loopw [5, 1] (fun i l wr => i = .int .i64 0 ∧ l = .int .i64 (k0 : Int) ∧ Rng lo hi w wr) (fun _ _ _ => 0)
      case atStart => exact ⟨rfl, rfl, Rng.refl _ _ _⟩
      case round =>
        obtain ⟨rfl, rfl, hr⟩ := hrel
        go_wp2
        go_ret
        exact ⟨by simp [sumN], hr⟩
    · have hBh : B < hi := by have := stairs hst 0 n (Nat.zero_le _) (Nat.le_refl _); omega
      have HK0 : Hid (KidsFr w B 0 n kid AD CP C) := ⟨hmd, fun i hi => by have h1 := stairs hst 0 i (Nat.zero_le _) hi; have h2 := stairs hst i n hi (Nat.le_refl _); exact ⟨by omega, by omega⟩, hst, fun i _ hi' => hkid i hi'⟩
      have hn5 : n ≤ sumN (fun i => (kid i).N) n := by
        have : ∀ m, m ≤ n → m ≤ sumN (fun i => (kid i).N) m := by
          intro m
          induction m with
          | zero => intro _; exact Nat.zero_le _
          | succ m ihm =>
            intro hm
            have h1 := ihm (by omega)
            have h2 := (hkid m (by omega)).2.node_N
            show m + 1 ≤ sumN _ m + (kid m).N
            omega
        exact this n (Nat.le_refl _)
      have HSM := hide (show ∀ j, j ≤ n → sumN (fun i => (kid i).N) j ≤ sumN (fun i => (kid i).N) n from fun j hj => stairs (C := sumN (fun i => (kid i).N)) (n := n) (fun i _ => Nat.le_add_right _ _) j n hj (Nat.le_refl _))
      have HCS := hide (show ∀ j, j < n → lo ≤ C j ∧ C (j + 1) ≤ hi from fun j hj => by have h1 := stairs hst 0 j (Nat.zero_le _) (by omega); have h2 := stairs hst (j + 1) n hj (Nat.le_refl _); exact ⟨by omega, by omega⟩)
      clear hst hmd hkid
      go_enter Tryz.func45, Tryz.ntmps45
      go_wp2
      go_loopw [5, 1] (fun i l wr => ∃ j : Nat, j ≤ n ∧ i = .int .i64 j ∧ l = .int .i64 ((k0 + 4 * sumN (fun i => (kid i).N) j : Nat) : Int) ∧ KidsFr wr B j n kid AD CP C ∧ Rng lo hi w wr) (fun i _ _ => n - (intOf i).toNat)
      case atStart => exact ⟨0, by omega, rfl, by simp [sumN], unhide HK0, Rng.refl _ _ _⟩
      case round =>
        obtain ⟨j, hj, rfl, rfl, hkf, hr⟩ := hrel
        have HK := hide hkf
        have HR := hide hr
        have hsz := hr.size
        clear hkf hr
        by_cases hlt : j < n
        · have hsj := (unhide HSM) (j + 1) (by omega)
          have hnj := ((unhide HK).2.2.2 j (Nat.le_refl _) hlt).2.node_N
          obtain ⟨q, hq⟩ : ∃ q, q = k0 + 4 * sumN (fun i => (kid i).N) j := ⟨_, rfl⟩
          have hq1 : q + 4 + 4 * ((kid j).N - 1) = k0 + 4 * sumN (fun i => (kid i).N) (j + 1) := by
            show _ = k0 + 4 * (sumN _ j + (kid j).N)
            omega
          have hq8 : q + 4 + 4 * (kid j).N ≤ 100000000 := by
            have e : sumN (fun i => (kid i).N) (j + 1) = sumN (fun i => (kid i).N) j + (kid j).N := rfl
            omega
          have HQ1 := hide hq1
          have hq0 : 0 < q := by omega
          rw [← hq]
          clear hq hq1 hsj
          obtain ⟨⟨u0, q0⟩, f0⟩ := (unhide HK).1.2 (j * 5) (by omega)
          obtain ⟨⟨u1, q1⟩, f1⟩ := (unhide HK).1.2 (j * 5 + 1) (by omega)
          obtain ⟨⟨u2, q2⟩, f2⟩ := (unhide HK).1.2 (j * 5 + 2) (by omega)
          go_wp2_with fail
          rw [show ((q : Int) + 1 + 1 + 1) = ((q + 3 : Nat) : Int) by omega]
          obtain ⟨w3, hw3⟩ : ∃ x, x = (((wr.setCell ⟨B, j * 5, none⟩ (.int .i64 (q : Int))).setCell ⟨B, j * 5 + 1, none⟩ (.int .i64 ((q : Int) + 1))).setCell ⟨B, j * 5 + 2, none⟩ (.int .i64 ((q : Int) + 1 + 1))) := ⟨_, rfl⟩
          have HK3 : Hid (KidsFr w3 B j n kid AD CP C) := by rw [hw3]; exact (((unhide HK).set _ (by omega) _).set _ (by omega) _).set _ (by omega) _
          have HR3 : Hid (Rng lo hi w w3) := by rw [hw3]; exact (((unhide HR).trans (Rng.mov (Mov.set _ _ _) hlo hBh)).trans (Rng.mov (Mov.set _ _ _) hlo hBh)).trans (Rng.mov (Mov.set _ _ _) hlo hBh)
          rw [← hw3]
          clear hw3 q0 q1 q2 f0 f1 f2 hsz
          refine (markText_is (q + 3) _ (by omega) (by omega)).mono ?_
          rintro e w4 ⟨rfl, b4⟩
          have HK4 := hide ((unhide HK3).later b4)
          have HR4 := hide ((unhide HR3).trans (Rng.of b4))
          clear b4
          obtain ⟨⟨u3, q3⟩, f3⟩ := (unhide HK4).1.2 (j * 5 + 3) (by omega)
          have q4 := ((unhide HK4).2.2.2 j (Nat.le_refl _) hlt).1
          go_wp2_with fail
          rw [show ((q : Int) + 3 + 1) = ((q + 4 : Nat) : Int) by omega]
          have HK5 := hide ((unhide HK4).set (j * 5 + 3) (by omega) (.string (mkT (q + 3))))
          have HR5 : Hid (Rng lo hi w (w4.setCell ⟨B, j * 5 + 3, none⟩ (.string (mkT (q + 3))))) := (unhide HR4).trans (Rng.mov (Mov.set _ _ _) hlo hBh)
          generalize w4.setCell ⟨B, j * 5 + 3, none⟩ (.string (mkT (q + 3))) = w5 at *
          clear q3 q4 f3
          refine (unhide IH j (C j) (C (j + 1)) (AD j) (CP j) (q + 4) w5 ((unhide HK5).2.2.2 j (Nat.le_refl _) hlt).2 ((unhide HK5).2.1 (j + 1) (by omega)).2 (by omega) hq8).mono ?_
          rintro e w6 ⟨rfl, r6⟩
          rw [unhide HQ1]
          have HK6 := hide ((unhide HK5).next hlt r6)
          have HR6 := hide ((unhide HR5).trans (r6.widen ((unhide HCS) j hlt).1 ((unhide HCS) j hlt).2))
          clear r6
          go_wp2
          go_roundw
          case rel => exact ⟨j + 1, by omega, by go_num, rfl, unhide HK6, unhide HR6⟩
          case measure => simp [intOf]; omega
        · have e : j = n := by omega
          subst e
          go_wp2
          go_ret
          exact ⟨rfl, unhide HR⟩
theorem TT.Fr.set {w : World} {t : TT} {lo hi : Nat} {ad : Option Addr} (h : t.Fr w lo hi ad) {p : Addr} (hp : p.block < lo) (v : Value) : t.Fr (w.setCell p v) lo hi ad :=
  TT.Fr.keep (by simp) _ _ _ _ (fun b hb1 _ => Below.heap_setCell _ _ _ _ (by omega)) h
theorem put5_mov (w : World) (B o : Nat) (t : TT) (ad : Option Addr) (cp : Nat) : Mov B w (put5 w B o t ad cp) := by
  unfold Go.Proofs.YtfopmobopmdahaaGreat.put5
  exact ((((Mov.set _ _ _).trans (Mov.set _ _ _)).trans (Mov.set _ _ _)).trans (Mov.set _ _ _)).trans (Mov.set _ _ _)
/-- The first k Kids of a list that is being written lie apart. -/
def FrTo (w : World) (B k : Nat) (kid : Nat → TT) : Prop := ∃ (AD : Nat → Option Addr) (CP C : Nat → Nat), C 0 = B + 1 ∧ (∀ i, i < k → C i ≤ C (i + 1)) ∧ C k ≤ w.heap.size ∧ ∀ i, i < k → w.cell? ⟨B, i * 5 + 4, none⟩ = some (.slice (AD i) (kid i).n (CP i)) ∧ (kid i).Fr w (C i) (C (i + 1)) (AD i)
theorem FrTo.step {w w1 : World} {B k m : Nat} {kid : Nat → TT} {ad : Option Addr} (h : FrTo w B k kid) (hB : B < w.heap.size) (b1 : Below w.heap.size w w1) (fr : (kid k).Fr w1 w.heap.size w1.heap.size ad) (hm : Made w1 B m) (hk : k * 5 + 4 < m) (cp : Nat) : FrTo (put5 w1 B (k * 5) (kid k) ad cp) B (k + 1) kid := by
  obtain ⟨AD, CP, C, c0, hst, hCk, h⟩ := h
  have mv := put5_mov w1 B (k * 5) (kid k) ad cp
  have hs := b1.size
  have hC := fun i (hi : i ≤ k) => stairs hst 0 i (Nat.zero_le _) hi
  have hD := fun i (hi : i ≤ k) => stairs hst i k hi (Nat.le_refl _)
  refine ⟨fun i => if i = k then ad else AD i, fun i => if i = k then cp else CP i, fun i => if i = k + 1 then w1.heap.size else C i, ?_, ?_, ?_, ?_⟩
  · simp only [if_neg (show ¬ (0 = k + 1) by omega)]; exact c0
  · intro i hi
    simp only [if_neg (show ¬ (i = k + 1) by omega)]
    by_cases e : i = k
    · subst e; simp only [if_true]; omega
    · simp only [if_neg (show ¬ (i + 1 = k + 1) by omega)]; exact hst i (by omega)
  · simp only [if_true]; rw [put5_size]; exact Nat.le_refl _
  · intro i hi
    simp only [if_neg (show ¬ (i = k + 1) by omega)]
    by_cases e : i = k
    · subst e
      simp only [if_true]
      have hc := hC i (Nat.le_refl _)
      exact ⟨(put5_at hm _ hk _ _ _).2.2.2.2, TT.Fr.keep mv.2.2.2.1 _ _ _ _ (fun b hb1 hb2 => mv.2.2.2.2 b (by omega) (by omega)) (fr.wide hCk (Nat.le_refl _))⟩
    · simp only [if_neg e, if_neg (show ¬ (i + 1 = k + 1) by omega)]
      have hc := hC i (by omega)
      have hd := hD (i + 1) (by omega)
      refine ⟨by rw [put5_other _ _ _ _ _ _ _ _ (by omega)]; exact cell_later b1 (h i (by omega)).1, TT.Fr.keep mv.2.2.2.1 _ _ _ _ (fun b hb1 hb2 => mv.2.2.2.2 b (by omega) (by omega)) ((h i (by omega)).2.later (b1.mono (by omega)))⟩
theorem FrTo.whole {w : World} {B n : Nat} {op a b : Int} {s : ByteArray} {kid : Nat → TT} (h : FrTo w B n kid) (hm : Made w B (n * 5)) : (TT.node op a b s n kid).Fr w B w.heap.size (some ⟨B, 0, none⟩) := by
  obtain ⟨AD, CP, C, c0, hst, hCk, h⟩ := h
  exact Or.inr ⟨B, rfl, Nat.le_refl _, hm, AD, CP, C, by omega, hst, hCk, h⟩
set_option maxRecDepth 100000 in
set_option maxHeartbeats 4000000 in
theorem toTermF_any (hi : Nat) (t : TT) : ∀ (ad : Option Addr) (cp : Nat) (w : World), t.In w 0 hi ad → t.Fit 1048576 → hi ≤ w.heap.size →
    Calls Tryz.prog 31 #[.agg #[.int .i64 t.op, .int .i64 t.a, .int .i64 t.b, .string t.s, .slice ad t.n cp]] w fun e w' => (∃ B, e = .returned (.agg #[.int .i64 t.op, .int .i64 t.a, .int .i64 t.b, .string t.s, .slice (some ⟨B, 0, none⟩) t.n t.n]) ∧ t.In w' w.heap.size w'.heap.size (some ⟨B, 0, none⟩) ∧ t.Fr w' w.heap.size w'.heap.size (some ⟨B, 0, none⟩)) ∧ Pl w' w.heap.size w'.heap.size ∧ Below w.heap.size w w' := by
  induction t with
  | nil => intro ad cp w hin; exact hin.elim
  | node op a b s n kid ih =>
    intro ad cp w hin hft hhi
    show Calls Tryz.prog 31 #[.agg #[.int .i64 op, .int .i64 a, .int .i64 b, .string s, .slice ad n cp]] w fun e w' => (∃ B, e = .returned (.agg #[.int .i64 op, .int .i64 a, .int .i64 b, .string s, .slice (some ⟨B, 0, none⟩) n n]) ∧ _) ∧ _ ∧ _
    obtain ⟨fn, fs, fk⟩ := hft
    have HS : Hid (∀ (w : World), (TT.node op a b s n kid).In w 0 hi ad → hi ≤ w.heap.size → Calls Tryz.prog 57 #[.slice ad n cp] w fun e w' => e = .returned (.slice (some ⟨w.heap.size, 0, none⟩) n n) ∧ (TT.node op a b s n kid).In w' w.heap.size w'.heap.size (some ⟨w.heap.size, 0, none⟩) ∧ (TT.node op a b s n kid).Fr w' w.heap.size w'.heap.size (some ⟨w.heap.size, 0, none⟩) ∧ Pl w' w.heap.size w'.heap.size ∧ Below w.heap.size w w') := by
      clear hin hhi w
      intro w hin hhi
      have IH := hide ih
      have FK := hide fk
      clear ih fk
      have hmk := run_make_wide (P := Tryz.prog) 48 50 _ 5 64 Tryz.underlying48 infoTerm .i64 .i64 n (by omega) (by omega)
      rcases hin with rfl | ⟨bl, off, rfl, hlo, hbl, AD, CP, hd⟩
      · simp only [Int.natCast_zero, Nat.zero_mul] at hmk
        go_enter Tryz.func57, Tryz.ntmps57
        go_wp2
        go_loopw [4] (fun i wr => i = .int .i64 0 ∧ wr.heap.size = w.heap.size + 1 ∧ Pl wr w.heap.size wr.heap.size ∧ Below w.heap.size w wr) (fun _ _ => 0)
        case atStart => exact ⟨rfl, by simp, Pl.alloc (Pl.none _ _) _ _, (by repeat (first | exact Below.refl _ _ | assumption | refine below_drewN ?_ _ | refine Below.drew ?_ | refine Below.alloc ?_ (by first | exact Nat.le_refl _ | exact Below.size (by assumption) | (simp; done) | (simp; omega)) _ | refine Below.setCell ?_ (by first | exact Nat.le_refl _ | exact Below.size (by assumption) | (simp; done) | (simp; omega)) _ | refine Below.trans ?_ (by assumption)))⟩
        case round =>
          obtain ⟨rfl, hsz, hpl, hbel⟩ := hrel
          have HP := hide hpl
          clear hpl
          go_wp2
          go_ret
          exact ⟨rfl, Or.inl rfl, Or.inl rfl, unhide HP, hbel⟩
      · have HD := hide hd
        clear hd
        go_enter Tryz.func57, Tryz.ntmps57
        go_wp2
        go_loopw [4] (fun i wr => ∃ k : Nat, k ≤ n ∧ i = .int .i64 k ∧ KidsTo wr w.heap.size k kid ∧ FrTo wr w.heap.size k kid ∧ Made wr w.heap.size (n * 5) ∧ Pl wr w.heap.size wr.heap.size ∧ Below w.heap.size w wr) (fun i _ => n - (intOf i).toNat)
        case atStart => exact ⟨0, by omega, rfl, ⟨fun _ => none, fun _ => 0, fun i hi => by omega⟩, ⟨fun _ => none, fun _ => 0, fun _ => w.heap.size + 1, rfl, fun i hi => by omega, by simp, fun i hi => by omega⟩, Made.new _ _ _ _, Pl.alloc (Pl.none _ _) _ _, (by repeat (first | exact Below.refl _ _ | assumption | refine below_drewN ?_ _ | refine Below.drew ?_ | refine Below.alloc ?_ (by first | exact Nat.le_refl _ | exact Below.size (by assumption) | (simp; done) | (simp; omega)) _ | refine Below.setCell ?_ (by first | exact Nat.le_refl _ | exact Below.size (by assumption) | (simp; done) | (simp; omega)) _ | refine Below.trans ?_ (by assumption)))⟩
        case round =>
          obtain ⟨k, hk, rfl, hdk, hfk, hmd, hpl, hbel⟩ := hrel
          have HF := hide hfk
          clear hfk
          have HP := hide hpl
          clear hpl
          have HK := hide hdk
          have HM := hide hmd
          clear hdk hmd
          have hlt0 := (unhide HM).1
          by_cases hlt : k < n
          · obtain ⟨h5, hcp, hin⟩ := unhide HD k hlt
            obtain ⟨c0, c1, c2, c3, c4⟩ := h5.keep (w' := wr) (fun o => hbel.cell (p := ⟨bl, o, none⟩) (Nat.lt_of_lt_of_le hbl hhi))
            have hin' := hin.later (hbel.mono hhi)
            go_wp2_with fail
            refine (unhide IH k _ _ _ hin' (unhide FK k hlt) (Nat.le_trans hhi hbel.size)).mono ?_
            rintro e w1 ⟨⟨B1, rfl, in1, fr1⟩, pl1, b1⟩
            have FR1 := hide fr1
            have HBB := hide b1
            clear fr1
            have HP1 := hide (Pl.join ((unhide HP).later b1) pl1)
            clear pl1
            have HM1 := hide ((unhide HM).later b1)
            have HK1 := hide ((unhide HK).later b1 hlt0)
            have IN1 := hide (TT.In.wide (show w.heap.size + 1 ≤ wr.heap.size from hlt0) (Nat.le_refl _) _ _ in1)
            obtain ⟨⟨u0, q0⟩, f0⟩ := (unhide HM1).2 (k * 5) (by omega)
            obtain ⟨⟨u1, q1⟩, f1⟩ := (unhide HM1).2 (k * 5 + 1) (by omega)
            obtain ⟨⟨u2, q2⟩, f2⟩ := (unhide HM1).2 (k * 5 + 2) (by omega)
            obtain ⟨⟨u3, q3⟩, f3⟩ := (unhide HM1).2 (k * 5 + 3) (by omega)
            obtain ⟨⟨u4, q4⟩, f4⟩ := (unhide HM1).2 (k * 5 + 4) (by omega)
            have l1 := (unhide HM1).1
            clear in1
            have hb1 := hbel.trans (b1.mono hbel.size)
            go_wp2
            go_roundw
            case rel => exact ⟨k + 1, by omega, by go_num, (unhide HK1).put (unhide HM1) (by omega) _ _ (Nat.le_refl _) (unhide IN1), (unhide HF).step hlt0 (unhide HBB) (unhide FR1) (unhide HM1) (by omega) _, (unhide HM1).put5 _ _ _ _, (by simp only [World.size_setCell]; exact Pl.put5 (unhide HP1) _ _ _ _ _), hb1.trans (put5_below (Nat.le_refl _) _ _ _ _)⟩
            case measure => simp [intOf]; omega
          · have e : k = n := by omega
            subst e
            go_wp2
            go_ret
            exact ⟨rfl, (unhide HK).whole hlt0, (unhide HF).whole (unhide HM), unhide HP, hbel⟩
    clear ih fk
    go_enter Tryz.func31, Tryz.ntmps31
    go_wp2_with fail
    have e1 : Below w.heap.size w (((w.alloc (.cells #[.int .i64 op, .int .i64 a, .int .i64 b, .string s, .slice ad n cp] 45)).alloc (.cells #[.int .i64 0, .int .i64 0, .int .i64 0, .string { data := #[] }, .slice none 0 0] 50)).alloc (.cells #[.int .i64 op, .int .i64 a, .int .i64 b, .string s, .slice none 0 0] 50)) := (((Below.refl w.heap.size w).alloc (by simp <;> omega) _).alloc (by simp <;> omega) _).alloc (by simp <;> omega) _
    refine (unhide HS _ (hin.later (e1.mono hhi)) (by simp; omega)).mono ?_
    rintro e w1 ⟨rfl, in1, fr1, pl1, b1⟩
    have HP1 := hide (Pl.join (Pl.later (Pl.alloc (Pl.alloc (Pl.alloc (Pl.none w _) _ _) _ _) _ _) b1) pl1)
    clear pl1
    have BL := e1.trans (b1.mono (by simp <;> omega))
    simp only [World.size_alloc] at in1 fr1
    have IN1 := hide in1
    have FR1 := hide fr1
    clear in1 fr1 e1
    have r0 : w1.cell? ⟨w.heap.size + 1, 0, none⟩ = some (.int .i64 0) := cell_later b1 (by simp [go_sem])
    have r1 : w1.cell? ⟨w.heap.size + 1, 1, none⟩ = some (.int .i64 0) := cell_later b1 (by simp [go_sem])
    have r2 : w1.cell? ⟨w.heap.size + 1, 2, none⟩ = some (.int .i64 0) := cell_later b1 (by simp [go_sem])
    have r3 : w1.cell? ⟨w.heap.size + 1, 3, none⟩ = some (.string ⟨#[]⟩) := cell_later b1 (by simp [go_sem])
    have r4 : w1.cell? ⟨w.heap.size + 1, 4, none⟩ = some (.slice none 0 0) := cell_later b1 (by simp [go_sem])
    have p0 : w1.cell? ⟨w.heap.size + 2, 0, none⟩ = some (.int .i64 op) := cell_later b1 (by simp [go_sem])
    have p1 : w1.cell? ⟨w.heap.size + 2, 1, none⟩ = some (.int .i64 a) := cell_later b1 (by simp [go_sem])
    have p2 : w1.cell? ⟨w.heap.size + 2, 2, none⟩ = some (.int .i64 b) := cell_later b1 (by simp [go_sem])
    have p3 : w1.cell? ⟨w.heap.size + 2, 3, none⟩ = some (.string s) := cell_later b1 (by simp [go_sem])
    have p4 : w1.cell? ⟨w.heap.size + 2, 4, none⟩ = some (.slice none 0 0) := cell_later b1 (by simp [go_sem])
    have f4 : w1.frozen? ⟨w.heap.size + 2, 4, none⟩ = false := by rw [b1.frozen (by simp)]; simp [go_sem]
    have g0 : w1.frozen? ⟨w.heap.size + 1, 0, none⟩ = false := by rw [b1.frozen (by simp)]; simp [go_sem]
    have g1 : w1.frozen? ⟨w.heap.size + 1, 1, none⟩ = false := by rw [b1.frozen (by simp)]; simp [go_sem]
    have g2 : w1.frozen? ⟨w.heap.size + 1, 2, none⟩ = false := by rw [b1.frozen (by simp)]; simp [go_sem]
    have g3 : w1.frozen? ⟨w.heap.size + 1, 3, none⟩ = false := by rw [b1.frozen (by simp)]; simp [go_sem]
    have g4 : w1.frozen? ⟨w.heap.size + 1, 4, none⟩ = false := by rw [b1.frozen (by simp)]; simp [go_sem]
    clear b1
    have n0 : w.heap.size + 2 ≠ w.heap.size + 1 := by omega
    have n1 : w.heap.size + 1 ≠ w.heap.size + 2 := by omega
    go_wp2
    refine bodyPost_ret (v := .agg #[.int .i64 op, .int .i64 a, .int .i64 b, .string s, .slice (some ⟨w.heap.size + 1 + 1 + 1, 0, none⟩) n n]) (by simp [results, Tryz.results31, go_sem, r0, r1, r2, r3, r4]) rfl ⟨⟨_, rfl, ?_, ?_⟩, ?_, ?_⟩
    · refine TT.In.wide (lo := w.heap.size + 1 + 1 + 1) (hi := w1.heap.size) (by omega) (by simp) _ _ ?_
      exact ((((((unhide IN1).set (by simp) _).set (by simp) _).set (by simp) _).set (by simp) _).set (by simp) _).set (by simp) _
    · refine TT.Fr.wide (lo := w.heap.size + 1 + 1 + 1) (hi := w1.heap.size) ?_ (by omega) (by simp)
      exact ((((((unhide FR1).set (by simp) _).set (by simp) _).set (by simp) _).set (by simp) _).set (by simp) _).set (by simp) _
    · simp only [World.size_setCell]
      exact Pl.setCell (Pl.setCell (Pl.setCell (Pl.setCell (Pl.setCell (Pl.setCell (unhide HP1) _ _) _ _) _ _) _ _) _ _) _ _
    · exact (((((BL.setCell (by simp <;> omega) _).setCell (by simp) _).setCell (by simp) _).setCell (by simp) _).setCell (by simp) _).setCell (by simp) _
theorem made_decs {w : World} {lo hi B n : Nat} {S : Nat → ByteArray} {V : Nat → Int} (h : DecsIn w lo hi (some ⟨B, 0, none⟩) n S V) (hp : Pl w lo hi) (hh : hi ≤ w.heap.size) : n = 0 ∨ (lo ≤ B ∧ B < hi ∧ Made w B (n * 2)) := by
  rcases h with h | ⟨b, off, e, h1, h2, h3⟩
  · exact Or.inl h
  · cases e
    refine Or.inr ⟨h1, h2, Nat.lt_of_lt_of_le h2 hh, fun j hj => ?_⟩
    have hc : ∃ v, w.cell? ⟨B, j, none⟩ = some v := by
      have hi := h3 (j / 2) (by omega)
      by_cases e : j % 2 = 0
      · exact ⟨_, by rw [show j = 0 + j / 2 * 2 by omega]; exact hi.1⟩
      · exact ⟨_, by rw [show j = 0 + j / 2 * 2 + 1 by omega]; exact hi.2⟩
    refine ⟨hc, ?_⟩
    obtain ⟨v, hv⟩ := hc
    obtain ⟨c, e, hb⟩ := hp B h1 h2 j v hv
    simp [World.frozen?, hb]
/-- A layer whose names lie in a block of their own, whose terms lie apart behind them. -/
def Lyr.Fr (q : Lyr) (w : World) (lo hi : Nat) (da ta : Option Addr) : Prop := ∃ mid, lo ≤ mid ∧ mid ≤ hi ∧ (q.nd = 0 ∨ ∃ B, da = some ⟨B, 0, none⟩ ∧ lo ≤ B ∧ B < mid ∧ Made w B (q.nd * 2)) ∧ q.t.Fr w mid hi ta
theorem Lyr.Fr.keep {q : Lyr} {w w' : World} {lo hi : Nat} {da ta : Option Addr} (h : q.Fr w lo hi da ta) (hs : w.heap.size ≤ w'.heap.size) (hk : ∀ b, lo ≤ b → b < hi → w'.heap[b]? = w.heap[b]?) : q.Fr w' lo hi da ta := by
  obtain ⟨mid, h1, h2, h3, h4⟩ := h
  exact ⟨mid, h1, h2, h3.imp id (fun ⟨B, e, l, u, m⟩ => ⟨B, e, l, u, m.blk hs (hk B l (by omega))⟩), TT.Fr.keep hs _ _ _ _ (fun b hb1 hb2 => hk b (by omega) hb2) h4⟩
theorem Lyr.Fr.set {q : Lyr} {w : World} {lo hi : Nat} {da ta : Option Addr} (h : q.Fr w lo hi da ta) {p : Addr} (hp : p.block < lo) (v : Value) : q.Fr (w.setCell p v) lo hi da ta :=
  h.keep (by simp) (fun b hb1 _ => Below.heap_setCell _ _ _ _ (by omega))
theorem Lyr.Fr.wide {q : Lyr} {w : World} {lo hi lo' hi' : Nat} {da ta : Option Addr} (h : q.Fr w lo hi da ta) (hl : lo' ≤ lo) (hh : hi ≤ hi') : q.Fr w lo' hi' da ta := by
  obtain ⟨mid, h1, h2, h3, h4⟩ := h
  exact ⟨mid, by omega, by omega, h3.imp id (fun ⟨B, e, l, u, m⟩ => ⟨B, e, by omega, u, m⟩), h4.wide (Nat.le_refl _) hh⟩
/-- The first k layers of a list lie apart. -/
def LaysTF (w : World) (B k : Nat) (Q : Nat → Lyr) : Prop := ∃ (DA TA : Nat → Option Addr) (DC TC C : Nat → Nat), C 0 = B + 1 ∧ (∀ i, i < k → C i ≤ C (i + 1)) ∧ C k ≤ w.heap.size ∧ ∀ i, i < k → Two w B (i * 2) (Q i) (DA i) (TA i) (DC i) (TC i) ∧ (Q i).Fr w (C i) (C (i + 1)) (DA i) (TA i)
theorem LaysTF.step {w w1 : World} {B k m : Nat} {Q : Nat → Lyr} {da ta : Option Addr} (h : LaysTF w B k Q) (hB : B < w.heap.size) (b1 : Below w.heap.size w w1) (fr : (Q k).Fr w1 w.heap.size w1.heap.size da ta) (hm : Made w1 B m) (hk : k * 2 + 1 < m) (dc tc : Nat) :
    LaysTF ((w1.setCell ⟨B, k * 2, none⟩ (.slice da (Q k).nd dc)).setCell ⟨B, k * 2 + 1, none⟩ (.slice ta (Q k).nt tc)) B (k + 1) Q := by
  obtain ⟨DA, TA, DC, TC, C, c0, hst, hCk, h⟩ := h
  have mv : Mov B w1 ((w1.setCell ⟨B, k * 2, none⟩ (.slice da (Q k).nd dc)).setCell ⟨B, k * 2 + 1, none⟩ (.slice ta (Q k).nt tc)) := (Mov.set _ _ _).trans (Mov.set _ _ _)
  have hs := b1.size
  have hC := fun i (hi : i ≤ k) => stairs hst 0 i (Nat.zero_le _) hi
  have hD := fun i (hi : i ≤ k) => stairs hst i k hi (Nat.le_refl _)
  refine ⟨fun i => if i = k then da else DA i, fun i => if i = k then ta else TA i, fun i => if i = k then dc else DC i, fun i => if i = k then tc else TC i, fun i => if i = k + 1 then w1.heap.size else C i, ?_, ?_, ?_, ?_⟩
  · simp only [if_neg (show ¬ (0 = k + 1) by omega)]; exact c0
  · intro i hi
    simp only [if_neg (show ¬ (i = k + 1) by omega)]
    by_cases e : i = k
    · subst e; simp only [if_true]; omega
    · simp only [if_neg (show ¬ (i + 1 = k + 1) by omega)]; exact hst i (by omega)
  · simp only [if_true, World.size_setCell]; exact Nat.le_refl _
  · intro i hi
    simp only [if_neg (show ¬ (i = k + 1) by omega)]
    by_cases e : i = k
    · subst e
      simp only [if_true]
      have hc := hC i (Nat.le_refl _)
      have m1 := hm.set ⟨B, i * 2, none⟩ (.slice da (Q i).nd dc)
      exact ⟨⟨by rw [World.cell?_setCell_other _ _ _ _ (by simp)]; exact set_there hm _ (by omega) _, set_there m1 _ hk _⟩, (fr.wide hCk (Nat.le_refl _)).keep mv.2.2.2.1 (fun b hb1 hb2 => mv.2.2.2.2 b (by omega) (by omega))⟩
    · simp only [if_neg e, if_neg (show ¬ (i + 1 = k + 1) by omega)]
      have hc := hC i (by omega)
      have hd := hD (i + 1) (by omega)
      have hh := h i (by omega)
      have h2 := hh.1.keep (w' := w1) (fun o => b1.cell (p := ⟨B, o, none⟩) hB)
      refine ⟨⟨?_, ?_⟩, (hh.2.keep (w' := w1) hs (fun b _ hb2 => b1.block b (by omega))).keep mv.2.2.2.1 (fun b hb1 hb2 => mv.2.2.2.2 b (by omega) (by omega))⟩
      · rw [World.cell?_setCell_other _ _ _ _ (by simp <;> omega), World.cell?_setCell_other _ _ _ _ (by simp <;> omega)]; exact h2.1
      · rw [World.cell?_setCell_other _ _ _ _ (by simp <;> omega), World.cell?_setCell_other _ _ _ _ (by simp <;> omega)]; exact h2.2
set_option maxRecDepth 100000 in
set_option maxHeartbeats 4000000 in
theorem toTermSF_any (hi n : Nat) (kid : Nat → TT) (fn : n ≤ 1048576) (fk : ∀ i, i < n → (kid i).Fit 1048576) (op a b : Int) (s : ByteArray) (ad : Option Addr) (cp : Nat) : ∀ (w : World), (TT.node op a b s n kid).In w 0 hi ad → hi ≤ w.heap.size → Calls Tryz.prog 57 #[.slice ad n cp] w fun e w' => e = .returned (.slice (some ⟨w.heap.size, 0, none⟩) n n) ∧ (TT.node op a b s n kid).In w' w.heap.size w'.heap.size (some ⟨w.heap.size, 0, none⟩) ∧ (TT.node op a b s n kid).Fr w' w.heap.size w'.heap.size (some ⟨w.heap.size, 0, none⟩) ∧ Pl w' w.heap.size w'.heap.size ∧ Below w.heap.size w w' := by
  have ih := fun k => toTermF_any hi (kid k)
  intro w hin hhi
  have IH := hide ih
  have FK := hide fk
  clear ih fk
  have hmk := run_make_wide (P := Tryz.prog) 48 50 _ 5 64 Tryz.underlying48 infoTerm .i64 .i64 n (by omega) (by omega)
  rcases hin with rfl | ⟨bl, off, rfl, hlo, hbl, AD, CP, hd⟩
  · simp only [Int.natCast_zero, Nat.zero_mul] at hmk
    go_enter Tryz.func57, Tryz.ntmps57
    go_wp2
    go_loopw [4] (fun i wr => i = .int .i64 0 ∧ wr.heap.size = w.heap.size + 1 ∧ Pl wr w.heap.size wr.heap.size ∧ Below w.heap.size w wr) (fun _ _ => 0)
    case atStart => exact ⟨rfl, by simp, Pl.alloc (Pl.none _ _) _ _, (by repeat (first | exact Below.refl _ _ | assumption | refine below_drewN ?_ _ | refine Below.drew ?_ | refine Below.alloc ?_ (by first | exact Nat.le_refl _ | exact Below.size (by assumption) | (simp; done) | (simp; omega)) _ | refine Below.setCell ?_ (by first | exact Nat.le_refl _ | exact Below.size (by assumption) | (simp; done) | (simp; omega)) _ | refine Below.trans ?_ (by assumption)))⟩
    case round =>
      obtain ⟨rfl, hsz, hpl, hbel⟩ := hrel
      have HP := hide hpl
      clear hpl
      go_wp2
      go_ret
      exact ⟨rfl, Or.inl rfl, Or.inl rfl, unhide HP, hbel⟩
  · have HD := hide hd
    clear hd
    go_enter Tryz.func57, Tryz.ntmps57
    go_wp2
    go_loopw [4] (fun i wr => ∃ k : Nat, k ≤ n ∧ i = .int .i64 k ∧ KidsTo wr w.heap.size k kid ∧ FrTo wr w.heap.size k kid ∧ Made wr w.heap.size (n * 5) ∧ Pl wr w.heap.size wr.heap.size ∧ Below w.heap.size w wr) (fun i _ => n - (intOf i).toNat)
    case atStart => exact ⟨0, by omega, rfl, ⟨fun _ => none, fun _ => 0, fun i hi => by omega⟩, ⟨fun _ => none, fun _ => 0, fun _ => w.heap.size + 1, rfl, fun i hi => by omega, by simp, fun i hi => by omega⟩, Made.new _ _ _ _, Pl.alloc (Pl.none _ _) _ _, (by repeat (first | exact Below.refl _ _ | assumption | refine below_drewN ?_ _ | refine Below.drew ?_ | refine Below.alloc ?_ (by first | exact Nat.le_refl _ | exact Below.size (by assumption) | (simp; done) | (simp; omega)) _ | refine Below.setCell ?_ (by first | exact Nat.le_refl _ | exact Below.size (by assumption) | (simp; done) | (simp; omega)) _ | refine Below.trans ?_ (by assumption)))⟩
    case round =>
      obtain ⟨k, hk, rfl, hdk, hfk, hmd, hpl, hbel⟩ := hrel
      have HF := hide hfk
      clear hfk
      have HP := hide hpl
      clear hpl
      have HK := hide hdk
      have HM := hide hmd
      clear hdk hmd
      have hlt0 := (unhide HM).1
      by_cases hlt : k < n
      · obtain ⟨h5, hcp, hin⟩ := unhide HD k hlt
        obtain ⟨c0, c1, c2, c3, c4⟩ := h5.keep (w' := wr) (fun o => hbel.cell (p := ⟨bl, o, none⟩) (Nat.lt_of_lt_of_le hbl hhi))
        have hin' := hin.later (hbel.mono hhi)
        go_wp2_with fail
        refine (unhide IH k _ _ _ hin' (unhide FK k hlt) (Nat.le_trans hhi hbel.size)).mono ?_
        rintro e w1 ⟨⟨B1, rfl, in1, fr1⟩, pl1, b1⟩
        have FR1 := hide fr1
        have HBB := hide b1
        clear fr1
        have HP1 := hide (Pl.join ((unhide HP).later b1) pl1)
        clear pl1
        have HM1 := hide ((unhide HM).later b1)
        have HK1 := hide ((unhide HK).later b1 hlt0)
        have IN1 := hide (TT.In.wide (show w.heap.size + 1 ≤ wr.heap.size from hlt0) (Nat.le_refl _) _ _ in1)
        obtain ⟨⟨u0, q0⟩, f0⟩ := (unhide HM1).2 (k * 5) (by omega)
        obtain ⟨⟨u1, q1⟩, f1⟩ := (unhide HM1).2 (k * 5 + 1) (by omega)
        obtain ⟨⟨u2, q2⟩, f2⟩ := (unhide HM1).2 (k * 5 + 2) (by omega)
        obtain ⟨⟨u3, q3⟩, f3⟩ := (unhide HM1).2 (k * 5 + 3) (by omega)
        obtain ⟨⟨u4, q4⟩, f4⟩ := (unhide HM1).2 (k * 5 + 4) (by omega)
        have l1 := (unhide HM1).1
        clear in1
        have hb1 := hbel.trans (b1.mono hbel.size)
        go_wp2
        go_roundw
        case rel => exact ⟨k + 1, by omega, by go_num, (unhide HK1).put (unhide HM1) (by omega) _ _ (Nat.le_refl _) (unhide IN1), (unhide HF).step hlt0 (unhide HBB) (unhide FR1) (unhide HM1) (by omega) _, (unhide HM1).put5 _ _ _ _, (by simp only [World.size_setCell]; exact Pl.put5 (unhide HP1) _ _ _ _ _), hb1.trans (put5_below (Nat.le_refl _) _ _ _ _)⟩
        case measure => simp [intOf]; omega
      · have e : k = n := by omega
        subst e
        go_wp2
        go_ret
        exact ⟨rfl, (unhide HK).whole hlt0, (unhide HF).whole (unhide HM), unhide HP, hbel⟩
set_option maxRecDepth 100000 in
set_option maxHeartbeats 4000000 in
theorem toLayerF_any (hi : Nat) (q : Lyr) (da ta : Option Addr) (dc tc : Nat) (w : World) (hin : q.In w 0 hi da ta) (hf : q.Fit 1048576) (hhi : hi ≤ w.heap.size) :
    Calls Tryz.prog 40 #[.agg #[.slice da q.nd dc, .slice ta q.nt tc]] w fun e w' => (∃ B C, e = .returned (.agg #[.slice (some ⟨B, 0, none⟩) q.nd q.nd, .slice (some ⟨C, 0, none⟩) q.nt q.nt]) ∧ q.In w' w.heap.size w'.heap.size (some ⟨B, 0, none⟩) (some ⟨C, 0, none⟩) ∧ q.Fr w' w.heap.size w'.heap.size (some ⟨B, 0, none⟩) (some ⟨C, 0, none⟩)) ∧ Pl w' w.heap.size w'.heap.size ∧ Below w.heap.size w w' := by
  obtain ⟨f1, f2, f3, f4⟩ := hf
  go_enter Tryz.func40, Tryz.ntmps40
  go_wp2_with fail
  obtain ⟨wa, hwa⟩ : ∃ x, x = ((w.alloc (.cells #[.slice da q.nd dc, .slice ta q.nt tc] 58)).alloc (.cells #[.slice none 0 0, .slice none 0 0] 62)).alloc (.cells #[.slice none 0 0, .slice none 0 0] 62) := ⟨_, rfl⟩
  have e1 : Below w.heap.size w wa := by rw [hwa]; exact (((Below.refl _ _).alloc (Nat.le_refl _) _).alloc (by simp) _).alloc (by simp <;> omega) _
  have ea : wa.heap.size = w.heap.size + 3 := by rw [hwa]; simp
  have pl0 : Pl wa w.heap.size wa.heap.size := by rw [hwa]; exact Pl.alloc (Pl.alloc (Pl.alloc (Pl.none _ _) _ _) _ _) _ _
  have a1 : wa.cell? ⟨w.heap.size, 1, none⟩ = some (.slice ta q.nt tc) := by rw [hwa]; simp [go_sem]
  have r0 : wa.cell? ⟨w.heap.size + 1, 0, none⟩ = some (.slice none 0 0) := by rw [hwa]; simp [go_sem]
  have r1 : wa.cell? ⟨w.heap.size + 1, 1, none⟩ = some (.slice none 0 0) := by rw [hwa]; simp [go_sem]
  have x0 : wa.cell? ⟨w.heap.size + 2, 0, none⟩ = some (.slice none 0 0) := by rw [hwa]; simp [go_sem]
  have x1 : wa.cell? ⟨w.heap.size + 2, 1, none⟩ = some (.slice none 0 0) := by rw [hwa]; simp [go_sem]
  have g0 : wa.frozen? ⟨w.heap.size + 1, 0, none⟩ = false := by rw [hwa]; simp [go_sem]
  have g1 : wa.frozen? ⟨w.heap.size + 1, 1, none⟩ = false := by rw [hwa]; simp [go_sem]
  have f0' : wa.frozen? ⟨w.heap.size + 2, 0, none⟩ = false := by rw [hwa]; simp [go_sem]
  have f1' : wa.frozen? ⟨w.heap.size + 2, 1, none⟩ = false := by rw [hwa]; simp [go_sem]
  rw [← hwa]
  clear hwa
  refine (toDeclSP_any hi da q.nd dc q.S q.V _ (hin.later (e1.mono hhi)).1 f1 (by omega)).mono ?_
  rintro e w1 ⟨rfl, D1, pl1, b1⟩
  have HN1 : Hid (q.nd = 0 ∨ (w.heap.size + 3 < w1.heap.size ∧ Made w1 (w.heap.size + 3) (q.nd * 2))) := by have h := made_decs D1 pl1 (Nat.le_refl _); rw [ea] at h; exact h.imp id (fun x => x.2)
  replace a1 := cell_later b1 a1
  replace r0 := cell_later b1 r0
  replace r1 := cell_later b1 r1
  replace x0 := cell_later b1 x0
  replace x1 := cell_later b1 x1
  replace g0 := (b1.frozen (p := ⟨w.heap.size + 1, 0, none⟩) (by simp only; omega)).trans g0
  replace g1 := (b1.frozen (p := ⟨w.heap.size + 1, 1, none⟩) (by simp only; omega)).trans g1
  replace f0' := (b1.frozen (p := ⟨w.heap.size + 2, 0, none⟩) (by simp only; omega)).trans f0'
  replace f1' := (b1.frozen (p := ⟨w.heap.size + 2, 1, none⟩) (by simp only; omega)).trans f1'
  have HP1 := hide (Pl.join (Pl.later pl0 b1) pl1)
  rw [ea] at D1
  have BL := e1.trans (b1.mono (by omega))
  have l1 : w.heap.size + 3 ≤ w1.heap.size := by have := b1.size; omega
  have HD1 := hide D1
  have n0 : w.heap.size + 2 ≠ w.heap.size + 1 := by omega
  have n1 : w.heap.size + 1 ≠ w.heap.size + 2 := by omega
  have n2 : w.heap.size ≠ w.heap.size + 2 := by omega
  clear e1 b1 pl0 pl1 D1
  have HIN := hide hin
  have F4 := hide f4
  clear hin f2 f4
  go_wp2_with fail
  obtain ⟨wb, hwb⟩ : ∃ x, x = w1.setCell ⟨w.heap.size + 1 + 1, 0, none⟩ (.slice (some ⟨w.heap.size + 3, 0, none⟩) q.nd q.nd) := ⟨_, rfl⟩
  have eb : Below (w.heap.size + 2) w1 wb := by rw [hwb]; exact (Below.refl _ _).setCell (by simp) _
  have sb : wb.heap.size = w1.heap.size := by rw [hwb]; simp
  have HPb : Hid (Pl wb w.heap.size wb.heap.size) := by show Pl _ _ _; rw [sb, hwb]; exact Pl.setCell (unhide HP1) _ _
  have HDb : Hid (DecsIn wb (w.heap.size + 3) wb.heap.size (some ⟨w.heap.size + 3, 0, none⟩) q.nd q.S q.V) := by
    show DecsIn _ _ _ _ _ _ _
    rw [sb]
    exact (unhide HD1).keep (fun b o h _ => by rw [hwb]; exact World.cell?_setCell_other _ _ _ _ (by simp <;> omega))
  have HNb : Hid (q.nd = 0 ∨ (w.heap.size + 3 < wb.heap.size ∧ Made wb (w.heap.size + 3) (q.nd * 2))) := (unhide HN1).imp id (fun x => ⟨by rw [sb]; exact x.1, by rw [hwb]; exact x.2.set _ _⟩)
  have BLb : Below w.heap.size w wb := BL.trans (eb.mono (by omega))
  have y0 : wb.cell? ⟨w.heap.size + 2, 0, none⟩ = some (.slice (some ⟨w.heap.size + 3, 0, none⟩) q.nd q.nd) := by rw [hwb]; exact World.cell?_setCell_same _ _ _ x0
  have y1 : wb.cell? ⟨w.heap.size + 2, 1, none⟩ = some (.slice none 0 0) := by rw [hwb, World.cell?_setCell_other _ _ _ _ (by simp)]; exact x1
  have a1b : wb.cell? ⟨w.heap.size, 1, none⟩ = some (.slice ta q.nt tc) := (eb.cell (p := ⟨w.heap.size, 1, none⟩) (by simp only; omega)).trans a1
  have r0b : wb.cell? ⟨w.heap.size + 1, 0, none⟩ = some (.slice none 0 0) := (eb.cell (p := ⟨w.heap.size + 1, 0, none⟩) (by simp only; omega)).trans r0
  have r1b : wb.cell? ⟨w.heap.size + 1, 1, none⟩ = some (.slice none 0 0) := (eb.cell (p := ⟨w.heap.size + 1, 1, none⟩) (by simp only; omega)).trans r1
  have g0b := (eb.frozen (p := ⟨w.heap.size + 1, 0, none⟩) (by simp only; omega)).trans g0
  have g1b := (eb.frozen (p := ⟨w.heap.size + 1, 1, none⟩) (by simp only; omega)).trans g1
  have f1b : wb.frozen? ⟨w.heap.size + 2, 1, none⟩ = false := by rw [hwb, World.frozen?_setCell]; exact f1'
  rw [← hwb]
  clear HN1 hwb a1 r0 r1 x0 x1 g0 g1 f0' f1' BL HP1 HD1 eb
  refine (toTermSF_any hi q.nt q.kid f3 (unhide F4) 0 0 0 ByteArray.empty ta tc wb ((unhide HIN).2.later (BLb.mono hhi)) (by omega)).mono ?_
  rintro e w2 ⟨rfl, T2, F2, pl2, b2⟩
  have HF2 := hide F2
  have HN2 : Hid (q.nd = 0 ∨ (w.heap.size + 3 < wb.heap.size ∧ Made w2 (w.heap.size + 3) (q.nd * 2))) := (unhide HNb).imp id (fun x => ⟨x.1, x.2.later b2⟩)
  clear F2 HNb
  have HP2 := hide (Pl.join ((unhide HPb).later b2) pl2)
  have HT2 := hide T2
  have HD2 := hide ((unhide HDb).keep (w' := w2) (fun b o _ h3 => b2.cell (p := ⟨b, o, none⟩) h3))
  replace y0 := cell_later b2 y0
  replace y1 := cell_later b2 y1
  replace r0b := cell_later b2 r0b
  replace r1b := cell_later b2 r1b
  replace g0b := (b2.frozen (p := ⟨w.heap.size + 1, 0, none⟩) (by simp only; omega)).trans g0b
  replace g1b := (b2.frozen (p := ⟨w.heap.size + 1, 1, none⟩) (by simp only; omega)).trans g1b
  replace f1b := (b2.frozen (p := ⟨w.heap.size + 2, 1, none⟩) (by simp only; omega)).trans f1b
  have BL2 := BLb.trans (b2.mono BLb.size)
  have l2 := b2.size
  clear b2 pl2 T2 HPb HDb BLb
  go_wp2
  refine bodyPost_ret (v := .agg #[.slice (some ⟨w.heap.size + 3, 0, none⟩) q.nd q.nd, .slice (some ⟨wb.heap.size, 0, none⟩) q.nt q.nt]) (by simp [results, Tryz.results40, go_sem, r0b, r1b]) rfl ⟨⟨_, _, rfl, ?_, ?_⟩, ?_, ?_⟩
  · have k2 : Lyr.In q w2 w.heap.size w2.heap.size (some ⟨w.heap.size + 3, 0, none⟩) (some ⟨wb.heap.size, 0, none⟩) := ⟨(unhide HD2).wide (by omega) (by omega), TT.In.wide (by omega) (Nat.le_refl _) _ _ (unhide HT2)⟩
    have k3 : Lyr.In q w2 (w.heap.size + 3) w2.heap.size (some ⟨w.heap.size + 3, 0, none⟩) (some ⟨wb.heap.size, 0, none⟩) := ⟨(unhide HD2).wide (by omega) (by omega), TT.In.wide (by omega) (Nat.le_refl _) _ _ (unhide HT2)⟩
    refine Lyr.In.wide (lo := w.heap.size + 3) (hi := w2.heap.size) ?_ (by omega) (by simp)
    repeat (first | exact k3 | refine Lyr.In.set ?_ (by simp <;> omega) _)
  · have k4 : Lyr.Fr q w2 (w.heap.size + 3) w2.heap.size (some ⟨w.heap.size + 3, 0, none⟩) (some ⟨wb.heap.size, 0, none⟩) := ⟨wb.heap.size, by omega, l2, (unhide HN2).imp id (fun x => ⟨_, rfl, Nat.le_refl _, x.1, x.2⟩), unhide HF2⟩
    refine Lyr.Fr.wide (lo := w.heap.size + 3) (hi := w2.heap.size) ?_ (by omega) (by simp)
    repeat (first | exact k4 | refine Lyr.Fr.set ?_ (by simp <;> omega) _)
  · simp only [World.size_setCell]
    repeat (first | exact unhide HP2 | refine Pl.setCell ?_ _ _)
  · repeat (first | exact BL2 | refine Below.setCell ?_ (by simp <;> omega) _)
set_option maxRecDepth 100000 in
set_option maxHeartbeats 4000000 in
theorem toLayerSF_any (hi : Nat) (a : Option Addr) (n cap : Nat) (Q : Nat → Lyr) (w : World) (hd : LaysIn w 0 hi a n Q) (hf : ∀ i, i < n → (Q i).Fit 1048576) (hn : n ≤ 1048576) (hhi : hi ≤ w.heap.size) :
    Calls Tryz.prog 11 #[.slice a n cap] w fun e w' => e = .returned (.slice (some ⟨w.heap.size, 0, none⟩) n n) ∧ LaysIn w' w.heap.size w'.heap.size (some ⟨w.heap.size, 0, none⟩) n Q ∧ (n = 0 ∨ LaysTF w' w.heap.size n Q) ∧ Pl w' w.heap.size w'.heap.size ∧ Below w.heap.size w w' := by
  have HF := hide hf
  clear hf
  have hmk := run_make_wide (P := Tryz.prog) 25 62 _ 2 48 Tryz.underlying25 infoLayr .i64 .i64 n (by omega) (by omega)
  rcases hd with rfl | ⟨b, off, rfl, _, hb, DA, TA, DC, TC, hd⟩
  · simp only [Int.natCast_zero, Nat.zero_mul] at hmk
    go_enter Tryz.func11, Tryz.ntmps11
    go_wp2
    go_loopw [4] (fun i wr => i = .int .i64 0 ∧ wr.heap.size = w.heap.size + 1 ∧ Pl wr w.heap.size wr.heap.size ∧ Below w.heap.size w wr) (fun _ _ => 0)
    case atStart => exact ⟨rfl, by simp, Pl.alloc (Pl.none _ _) _ _, (by repeat (first | exact Below.refl _ _ | assumption | refine below_drewN ?_ _ | refine Below.drew ?_ | refine Below.alloc ?_ (by first | exact Nat.le_refl _ | exact Below.size (by assumption) | (simp; done) | (simp; omega)) _ | refine Below.setCell ?_ (by first | exact Nat.le_refl _ | exact Below.size (by assumption) | (simp; done) | (simp; omega)) _ | refine Below.trans ?_ (by assumption)))⟩
    case round =>
      obtain ⟨rfl, hsz, hpl, hbel⟩ := hrel
      have HP := hide hpl
      clear hpl
      go_wp2
      go_ret
      exact ⟨rfl, Or.inl rfl, (by first | exact Or.inl rfl | exact Or.inl trivial), unhide HP, hbel⟩
  · have HD := hide hd
    clear hd
    go_enter Tryz.func11, Tryz.ntmps11
    go_wp2
    go_loopw [4] (fun i wr => ∃ k : Nat, k ≤ n ∧ i = .int .i64 k ∧ LaysTo wr w.heap.size k Q ∧ LaysTF wr w.heap.size k Q ∧ Made wr w.heap.size (n * 2) ∧ Pl wr w.heap.size wr.heap.size ∧ Below w.heap.size w wr) (fun i _ => n - (intOf i).toNat)
    case atStart => exact ⟨0, by omega, rfl, ⟨fun _ => none, fun _ => none, fun _ => 0, fun _ => 0, fun i hi => by omega⟩, ⟨fun _ => none, fun _ => none, fun _ => 0, fun _ => 0, fun _ => w.heap.size + 1, rfl, fun i hi => by omega, by simp, fun i hi => by omega⟩, Made.new _ _ _ _, Pl.alloc (Pl.none _ _) _ _, (by repeat (first | exact Below.refl _ _ | assumption | refine below_drewN ?_ _ | refine Below.drew ?_ | refine Below.alloc ?_ (by first | exact Nat.le_refl _ | exact Below.size (by assumption) | (simp; done) | (simp; omega)) _ | refine Below.setCell ?_ (by first | exact Nat.le_refl _ | exact Below.size (by assumption) | (simp; done) | (simp; omega)) _ | refine Below.trans ?_ (by assumption)))⟩
    case round =>
      obtain ⟨k, hk, rfl, hdk, hfk, hmd, hpl, hbel⟩ := hrel
      have HG := hide hfk
      clear hfk
      have HK := hide hdk
      have HM := hide hmd
      have HP := hide hpl
      clear hdk hmd hpl
      have hlt0 := (unhide HM).1
      by_cases hlt : k < n
      · obtain ⟨h2, _, hin⟩ := unhide HD k hlt
        obtain ⟨c0, c1⟩ := h2.keep (w' := wr) (fun o => hbel.cell (p := ⟨b, o, none⟩) (Nat.lt_of_lt_of_le hb hhi))
        have hin' := hin.later (hbel.mono hhi)
        go_wp2_with fail
        refine (toLayerF_any hi (Q k) _ _ _ _ _ hin' (unhide HF k hlt) (Nat.le_trans hhi hbel.size)).mono ?_
        rintro e w1 ⟨⟨B1, C1, rfl, in1, fr1⟩, pl1, b1⟩
        have FR1 := hide fr1
        have HBB := hide b1
        clear fr1
        have HP1 := hide (Pl.join ((unhide HP).later b1) pl1)
        have HM1 := hide ((unhide HM).later b1)
        have HK1 := hide ((unhide HK).later b1 hlt0)
        have IN1 := hide (in1.wide (show w.heap.size + 1 ≤ wr.heap.size from hlt0) (Nat.le_refl _))
        obtain ⟨⟨u0, q0⟩, f0⟩ := (unhide HM1).2 (k * 2) (by omega)
        obtain ⟨⟨u1, q1⟩, f1⟩ := (unhide HM1).2 (k * 2 + 1) (by omega)
        have l1 := (unhide HM1).1
        clear in1 pl1 hin hin' h2
        have hb1 := hbel.trans (b1.mono hbel.size)
        go_wp2
        go_roundw
        case rel => exact ⟨k + 1, by omega, by go_num, (unhide HK1).put (unhide HM1) (by omega) _ _ _ _ ⟨Nat.le_refl _, Nat.le_refl _, by simp, by simp⟩ (unhide IN1), (unhide HG).step hlt0 (unhide HBB) (unhide FR1) (unhide HM1) (by omega) _ _, ((unhide HM1).set _ _).set _ _, (by simp only [World.size_setCell]; exact Pl.setCell (Pl.setCell (unhide HP1) _ _) _ _), (hb1.setCell (Nat.le_refl _) _).setCell (Nat.le_refl _) _⟩
        case measure => simp [intOf]; omega
      · have e : k = n := by omega
        subst e
        go_wp2
        go_ret
        exact ⟨rfl, (unhide HK).whole hlt0, Or.inr (unhide HG), unhide HP, hbel⟩
set_option maxRecDepth 100000 in
set_option maxHeartbeats 1000000 in
theorem markDeclS_rng (lo hi k0 : Nat) (da : Option Addr) (n cap : Nat) (w : World) (h0 : 0 < k0) (h1 : k0 ≤ 100000000) (hn : n ≤ 1048576) (hm : n = 0 ∨ ∃ B, da = some ⟨B, 0, none⟩ ∧ lo ≤ B ∧ B < hi ∧ Made w B (n * 2)) :
    Calls Tryz.prog 18 #[.slice da n cap, .int .i64 (k0 : Int)] w fun e w' => e = .returned (.int .i64 ((k0 + 2 * n : Nat) : Int)) ∧ Rng lo hi w w' := by
  rcases hm with rfl | ⟨B, rfl, hl, hh, hm⟩
  · go_enter Tryz.func18, Tryz.ntmps18
    go_wp2
    go_loopw [5, 1] (fun i s wr => i = .int .i64 0 ∧ s = .int .i64 (k0 : Int) ∧ Rng lo hi w wr) (fun _ _ _ => 0)
    case atStart => exact ⟨rfl, rfl, Rng.refl _ _ _⟩
    case round =>
      obtain ⟨rfl, rfl, hr⟩ := hrel
      go_wp2
      go_ret
      exact ⟨by simp, hr⟩
  · exact (markDeclS_is k0 B n cap w h0 h1 hm hn).mono fun e w' h => ⟨h.1, Rng.mov h.2.2.2 hl hh⟩
/-- Layers that lie apart, in blocks behind their list's and below a place. -/
def LaysFr (w : World) (B n hi : Nat) (Q : Nat → Lyr) : Prop := n = 0 ∨ ∃ (DA TA : Nat → Option Addr) (DC TC C : Nat → Nat), C 0 = B + 1 ∧ (∀ i, i < n → C i ≤ C (i + 1)) ∧ C n ≤ hi ∧ ∀ i, i < n → Two w B (i * 2) (Q i) (DA i) (TA i) (DC i) (TC i) ∧ (Q i).Fr w (C i) (C (i + 1)) (DA i) (TA i)
theorem LaysFr.of {w : World} {B n : Nat} {Q : Nat → Lyr} (h : n = 0 ∨ LaysTF w B n Q) : LaysFr w B n w.heap.size Q := h
theorem LaysFr.later {w w' : World} {B n hi : Nat} {Q : Nat → Lyr} (h : LaysFr w B n hi Q) (hb : Below hi w w') : LaysFr w' B n hi Q := by
  rcases h with h | ⟨DA, TA, DC, TC, C, c0, hst, hCn, h⟩
  · exact Or.inl h
  · have hB : B < hi := by have := stairs hst 0 n (Nat.zero_le _) (Nat.le_refl _); omega
    refine Or.inr ⟨DA, TA, DC, TC, C, c0, hst, hCn, fun i hi' => ⟨(h i hi').1.keep (fun o => hb.cell (p := ⟨B, o, none⟩) hB), (h i hi').2.keep hb.size (fun b hb1 hb2 => hb.block b ?_)⟩⟩
    have := stairs hst (i + 1) n hi' (Nat.le_refl _)
    omega
/-- How many marks a layer takes. -/
def Lyr.W (q : Lyr) : Nat := 2 * q.nd + 4 * (q.t.N - 1)
/-- The layers from one on, and the list's cells, as the marks find them. -/
def KLays (w : World) (B j n : Nat) (Q : Nat → Lyr) (DA TA : Nat → Option Addr) (DC TC C : Nat → Nat) : Prop :=
  B < w.heap.size ∧ (∀ i, i ≤ n → B < C i ∧ C i ≤ w.heap.size) ∧ (∀ i, i < n → C i ≤ C (i + 1)) ∧ ∀ i, j ≤ i → i < n → Two w B (i * 2) (Q i) (DA i) (TA i) (DC i) (TC i) ∧ (Q i).Fr w (C i) (C (i + 1)) (DA i) (TA i)
theorem KLays.next {w w' : World} {B j n : Nat} {Q : Nat → Lyr} {DA TA : Nat → Option Addr} {DC TC C : Nat → Nat} (h : KLays w B j n Q DA TA DC TC C) (hj : j < n) (hr : Rng (C j) (C (j + 1)) w w') : KLays w' B (j + 1) n Q DA TA DC TC C := by
  have hB := (h.2.1 j (by omega)).1
  have hk := hr.2.2.2.2 B h.1 (Or.inl hB)
  refine ⟨Nat.lt_of_lt_of_le h.1 hr.size, fun i hi => ⟨(h.2.1 i hi).1, Nat.le_trans (h.2.1 i hi).2 hr.size⟩, h.2.2.1, fun i h1 h2 => ⟨(h.2.2.2 i (by omega) h2).1.keep (fun o => World.cell?_of_block (w := w) (a := ⟨B, o, none⟩) hk), ?_⟩⟩
  have hs := stairs h.2.2.1 (j + 1) i h1 (by omega)
  have hC := (h.2.1 (i + 1) h2).2
  exact (h.2.2.2 i (by omega) h2).2.keep hr.size (fun b hb1 hb2 => hr.2.2.2.2 b (by omega) (Or.inr (by omega)))
set_option maxRecDepth 100000 in
set_option maxHeartbeats 4000000 in
theorem markLayerS_any (Q : Nat → Lyr) (B n hi cap k0 : Nat) (w : World) (hq : LaysFr w B n hi Q) (hhi : hi ≤ w.heap.size) (hn : n ≤ 1048576) (hf : ∀ i, i < n → (Q i).nd ≤ 1048576) (h0 : 0 < k0) (h1 : k0 + sumN (fun i => (Q i).W) n ≤ 99999996) :
    Calls Tryz.prog 17 #[.slice (some ⟨B, 0, none⟩) n cap, .int .i64 (k0 : Int)] w fun e w' => e = .returned (.int .i64 ((k0 + sumN (fun i => (Q i).W) n : Nat) : Int)) ∧ Rng (B + 1) hi w w' := by
  rcases hq with rfl | ⟨DA, TA, DC, TC, C, c0, hst, hCn, hkid⟩
  · go_enter Tryz.func17, Tryz.ntmps17
    go_wp2
    go_loopw [5, 1] (fun i l wr => i = .int .i64 0 ∧ l = .int .i64 (k0 : Int) ∧ Rng (B + 1) hi w wr) (fun _ _ _ => 0)
    case atStart => exact ⟨rfl, rfl, Rng.refl _ _ _⟩
    case round =>
      obtain ⟨rfl, rfl, hr⟩ := hrel
      go_wp2
      go_ret
      exact ⟨by simp [sumN], hr⟩
  · have hB : B < w.heap.size := by have := stairs hst 0 n (Nat.zero_le _) (Nat.le_refl _); omega
    have HF := hide hf
    have HK0 : Hid (KLays w B 0 n Q DA TA DC TC C) := ⟨hB, fun i hi => by have h1 := stairs hst 0 i (Nat.zero_le _) hi; have h2 := stairs hst i n hi (Nat.le_refl _); exact ⟨by omega, by omega⟩, hst, fun i _ hi' => hkid i hi'⟩
    have HSM := hide (show ∀ j, j ≤ n → sumN (fun i => (Q i).W) j ≤ sumN (fun i => (Q i).W) n from fun j hj => stairs (C := sumN (fun i => (Q i).W)) (n := n) (fun i _ => Nat.le_add_right _ _) j n hj (Nat.le_refl _))
    have HCS := hide (show ∀ j, j < n → B + 1 ≤ C j ∧ C (j + 1) ≤ hi from fun j hj => by have h1 := stairs hst 0 j (Nat.zero_le _) (by omega); have h2 := stairs hst (j + 1) n hj (Nat.le_refl _); exact ⟨by omega, by omega⟩)
    clear hst hf hkid
    go_enter Tryz.func17, Tryz.ntmps17
    go_wp2
    go_loopw [5, 1] (fun i l wr => ∃ j : Nat, j ≤ n ∧ i = .int .i64 j ∧ l = .int .i64 ((k0 + sumN (fun i => (Q i).W) j : Nat) : Int) ∧ KLays wr B j n Q DA TA DC TC C ∧ Rng (B + 1) hi w wr) (fun i _ _ => n - (intOf i).toNat)
    case atStart => exact ⟨0, by omega, rfl, by simp [sumN], unhide HK0, Rng.refl _ _ _⟩
    case round =>
      obtain ⟨j, hj, rfl, rfl, hkf, hr⟩ := hrel
      have HK := hide hkf
      have HR := hide hr
      clear hkf hr
      by_cases hlt : j < n
      · have HLT := hide hlt
        have hsj := (unhide HSM) (j + 1) (by omega)
        obtain ⟨⟨c0, c1⟩, mid, m1, m2, hnm, htm⟩ := (unhide HK).2.2.2 j (Nat.le_refl _) hlt
        have hnN := htm.node_N
        have HNM := hide hnm
        have HTM := hide htm
        obtain ⟨q, hq⟩ : ∃ q, q = k0 + sumN (fun i => (Q i).W) j := ⟨_, rfl⟩
        have hq1 : q + 2 * (Q j).nd + 4 * ((Q j).t.N - 1) = k0 + sumN (fun i => (Q i).W) (j + 1) := by
          show _ = k0 + (sumN _ j + (Q j).W)
          unfold Lyr.W at *
          omega
        have hq8 : q + 2 * (Q j).nd + 4 * (Q j).t.N ≤ 100000000 := by omega
        have HQ1 := hide hq1
        have hq0 : 0 < q := by omega
        have hfj := (unhide HF) j hlt
        rw [← hq]
        clear hq hq1 hsj hnm htm
        go_wp2_with fail
        refine (markDeclS_rng (C j) mid q (DA j) _ _ wr hq0 (by omega) hfj (unhide HNM)).mono ?_
        rintro e w1 ⟨rfl, r1⟩
        have HR1 := hide r1
        have hCm := ((unhide HK).2.1 (j + 1) (by omega)).2
        have hBj := ((unhide HK).2.1 j (by omega)).1
        replace c1 := r1.cell c1 (Or.inl hBj)
        have HTM1 : Hid ((Q j).t.Fr w1 mid (C (j + 1)) (TA j)) := TT.Fr.keep r1.size _ _ _ _ (fun b hb1 hb2 => r1.2.2.2.2 b (by omega) (Or.inr hb1)) (unhide HTM)
        have hC1 := Nat.le_trans hCm r1.size
        clear r1
        go_wp2_with fail
        refine (markTermS_any (Q j).t mid (C (j + 1)) (TA j) _ (q + 2 * (Q j).nd) w1 (unhide HTM1) hC1 (by omega) (by omega)).mono ?_
        rintro e w2 ⟨rfl, r2⟩
        rw [unhide HQ1]
        have r3 := ((unhide HR1).widen (Nat.le_refl _) m2).trans (r2.widen m1 (Nat.le_refl _))
        have HK2 := hide ((unhide HK).next hlt r3)
        have HR2 := hide ((unhide HR).trans (r3.widen ((unhide HCS) j hlt).1 ((unhide HCS) j hlt).2))
        clear r2 r3
        go_wp2
        go_roundw
        case rel => exact ⟨j + 1, unhide HLT, by go_num, rfl, unhide HK2, unhide HR2⟩
        case measure => (have := unhide HLT; simp [intOf]; omega)
      · have e : j = n := by omega
        subst e
        go_wp2
        go_ret
        exact ⟨rfl, unhide HR⟩
/-- How many names and parts of terms a layer has. -/
def Lyr.d (q : Lyr) : Nat := q.nd + max q.nt (q.t.N - 1)
theorem sum_c (Q : Nat → Lyr) (n : Nat) : sumN (fun i => (Q i).c) n ≤ sumN (fun i => (Q i).d) n := by
  induction n with
  | zero => exact Nat.le_refl _
  | succ n ih => show sumN _ n + (Q n).c ≤ sumN _ n + (Q n).d; unfold Lyr.c Lyr.d at *; omega
theorem sum_W (Q : Nat → Lyr) (n : Nat) : sumN (fun i => (Q i).W) n ≤ 4 * sumN (fun i => (Q i).d) n := by
  induction n with
  | zero => exact Nat.le_refl _
  | succ n ih => show sumN _ n + (Q n).W ≤ 4 * (sumN _ n + (Q n).d); unfold Lyr.W Lyr.d at *; omega
set_option maxRecDepth 100000 in
set_option maxHeartbeats 1000000 in
theorem szLayerD_any (hi : Nat) (q : Lyr) (da ta : Option Addr) (dc tc : Nat) (left : Int) (w : World) (hin : q.In w 0 hi da ta) (hf : q.Fit maxLen) (h0 : 0 ≤ left) (h1 : left ≤ 1048576) (hhi : hi ≤ w.heap.size) :
    Calls Tryz.prog 35 #[.agg #[.slice da q.nd dc, .slice ta q.nt tc], .int .i64 left] w fun e w' => (∃ z : Int, e = .returned (.int .i64 z) ∧ (z < 0 ∨ 0 ≤ z ∧ z + q.d ≤ left ∧ q.Low)) ∧ Below w.heap.size w w' := by
  obtain ⟨f1, f2, f3, f4⟩ := hf
  go_enter Tryz.func35, Tryz.ntmps35
  go_wp2_with fail
  have e1 : Below w.heap.size w (w.alloc (.cells #[.slice da q.nd dc, .slice ta q.nt tc] 58)) := (Below.refl _ _).alloc (Nat.le_refl _) _
  refine (szDeclSN_any da q.nd dc q.S q.V left _ ((hin.1.at_ hhi).later e1) h0 h1 f1 f2).mono ?_
  rintro e w1 ⟨⟨z, rfl, hz⟩, b1⟩
  have p1 : w1.cell? ⟨w.heap.size, 1, none⟩ = some (.slice ta q.nt tc) := cell_later b1 (by simp [go_sem])
  have BL := e1.trans (b1.mono (by simp <;> omega))
  clear e1 b1
  by_cases hz0 : 0 ≤ z
  · obtain ⟨_, hz1, hz3⟩ := hz.resolve_left (by omega)
    have hpos := sumN_ge (fun i => (q.kid i).N) (n := q.nt) (TT.In.pos hin.2)
    have HZ := hide hz3
    have F4 := hide f4
    have IN := hide (hin.2.later (BL.mono hhi))
    have hh1 := Nat.le_trans hhi BL.size
    clear hz hz3 f2 f4 hin
    go_wp2_with fail
    refine (szTermS_any hi q.nt q.kid f3 (unhide F4) 0 0 0 ByteArray.empty ta tc z w1 (unhide IN) hz0 (by omega) hh1).mono ?_
    rintro e w2 ⟨⟨y, rfl, hy⟩, b2⟩
    replace BL := BL.trans (b2.mono BL.size)
    clear b2 p1
    by_cases hy0 : 0 ≤ y
    · have HL : Hid (q.Low) := by
        obtain ⟨_, hy1, hy2, hy3⟩ := hy.resolve_left (by omega)
        refine ⟨⟨by omega, fun i hi => by have := unhide HZ i hi; omega, hy2, hy3⟩, fun i hi => ?_⟩
        have := sumN_at (fun i => (q.kid i).N) hi
        try simp only at this
        omega
      have hyz : y + q.nt ≤ z := by have := (hy.resolve_left (by omega)).2.1; omega
      have hyN : y + ((q.t.N - 1 : Nat) : Int) ≤ z := by have h := (hy.resolve_left (by omega)).2.1; have e : q.t.N = 1 + sumN (fun i => (q.kid i).N) q.nt := TT.N_node _ _ _ _ _ _; omega
      clear hy
      go_wp2
      go_ret
      exact ⟨⟨_, rfl, Or.inr ⟨hy0, by unfold Lyr.d; omega, unhide HL⟩⟩, BL⟩
    · clear hy
      go_wp2
      go_ret
      exact ⟨⟨_, rfl, Or.inl (by omega)⟩, BL⟩
  · clear hz hin f2 f4
    go_wp2
    go_ret
    exact ⟨⟨_, rfl, Or.inl (by omega)⟩, BL⟩
set_option maxRecDepth 100000 in
set_option maxHeartbeats 1000000 in
theorem szLayerSD_any (hi : Nat) (a : Option Addr) (n cap : Nat) (Q : Nat → Lyr) (left : Int) (w : World) (hd : LaysIn w 0 hi a n Q) (hf : ∀ i, i < n → (Q i).Fit maxLen) (h0 : 0 ≤ left) (h1 : left ≤ 1048576) (hn : n ≤ maxLen) (hhi : hi ≤ w.heap.size) :
    Calls Tryz.prog 9 #[.slice a n cap, .int .i64 left] w fun e w' => (∃ z : Int, e = .returned (.int .i64 z) ∧ (z < 0 ∨ 0 ≤ z ∧ z + n + sumN (fun i => (Q i).d) n ≤ left ∧ ∀ i, i < n → (Q i).Low)) ∧ Below w.heap.size w w' := by
  unfold maxLen at hn
  have HF := hide hf
  clear hf
  by_cases h : (n : Int) ≤ left
  · rcases hd with rfl | ⟨b, off, rfl, hlo, hb, DA, TA, DC, TC, hd⟩
    · go_enter Tryz.func9, Tryz.ntmps9
      go_wp2
      go_loopw [5, 1] (fun i l wr => i = .int .i64 0 ∧ l = .int .i64 left ∧ Below w.heap.size w wr) (fun _ _ _ => 0)
      case atStart => exact ⟨rfl, by go_num, (by repeat (first | exact Below.refl _ _ | assumption | refine below_drewN ?_ _ | refine Below.drew ?_ | refine Below.alloc ?_ (by first | exact Nat.le_refl _ | exact Below.size (by assumption) | (simp; done) | (simp; omega)) _ | refine Below.setCell ?_ (by first | exact Nat.le_refl _ | exact Below.size (by assumption) | (simp; done) | (simp; omega)) _ | refine Below.trans ?_ (by assumption)))⟩
      case round =>
        obtain ⟨rfl, rfl, hbel⟩ := hrel
        go_wp2
        go_ret
        exact ⟨⟨_, rfl, Or.inr ⟨h0, by simp [sumN], fun i hi => by omega⟩⟩, (by repeat (first | exact Below.refl _ _ | assumption | refine below_drewN ?_ _ | refine Below.drew ?_ | refine Below.alloc ?_ (by first | exact Nat.le_refl _ | exact Below.size (by assumption) | (simp; done) | (simp; omega)) _ | refine Below.setCell ?_ (by first | exact Nat.le_refl _ | exact Below.size (by assumption) | (simp; done) | (simp; omega)) _ | refine Below.trans ?_ (by assumption)))⟩
    · have HD := hide hd
      clear hd
      go_enter Tryz.func9, Tryz.ntmps9
      go_wp2
      go_loopw [5, 1] (fun i l wr => ∃ (k : Nat) (z : Int), k ≤ n ∧ i = .int .i64 k ∧ l = .int .i64 z ∧ 0 ≤ z ∧ z + n + sumN (fun i => (Q i).d) k ≤ left ∧ (∀ j, j < k → (Q j).Low) ∧ Below w.heap.size w wr) (fun i _ _ => n - (intOf i).toNat)
      case atStart => exact ⟨0, left - n, by omega, rfl, by go_num, by omega, by simp [sumN], fun j hj => by omega, (by repeat (first | exact Below.refl _ _ | assumption | refine below_drewN ?_ _ | refine Below.drew ?_ | refine Below.alloc ?_ (by first | exact Nat.le_refl _ | exact Below.size (by assumption) | (simp; done) | (simp; omega)) _ | refine Below.setCell ?_ (by first | exact Nat.le_refl _ | exact Below.size (by assumption) | (simp; done) | (simp; omega)) _ | refine Below.trans ?_ (by assumption)))⟩
      case round =>
        obtain ⟨k, z, hk, rfl, rfl, z0, z1, hz, hbel⟩ := hrel
        have HZ := hide hz
        clear hz
        have hhr := Nat.le_trans hhi hbel.size
        by_cases hlt : k < n
        · obtain ⟨h2, _, hin⟩ := unhide HD k hlt
          obtain ⟨c0, c1⟩ := h2.keep (w' := wr) (fun o => hbel.cell (p := ⟨b, o, none⟩) (Nat.lt_of_lt_of_le hb hhi))
          have hin' := hin.later (hbel.mono hhi)
          have HFk := hide (unhide HF k hlt)
          generalize hq : Q k = q at *
          go_wp2_with fail
          refine (szLayerD_any hi q _ _ _ _ z _ hin' (unhide HFk) z0 (by omega) hhr).mono ?_
          rintro e w1 ⟨⟨y, rfl, hy⟩, b1⟩
          have HY := hide hy
          clear hy hin hin' h2
          by_cases hle : 0 ≤ y
          · go_wp2
            go_roundw
            case rel =>
              obtain ⟨_, hy1, hy2⟩ := (unhide HY).resolve_left (by omega)
              have es : sumN (fun i => (Q i).d) (k + 1) = sumN (fun i => (Q i).d) k + q.d := by rw [← hq]; rfl
              refine ⟨k + 1, y, by omega, by go_num, rfl, by omega, by rw [es]; omega, ?_, hbel.trans (b1.mono hbel.size)⟩
              intro j hj
              by_cases e : j = k
              · subst e; rw [hq]; exact hy2
              · exact unhide HZ j (by omega)
            case measure => simp [intOf]; omega
          · go_wp2
            go_ret
            exact ⟨⟨_, rfl, Or.inl (by omega)⟩, hbel.trans (b1.mono hbel.size)⟩
        · have e : k = n := by omega
          subst e
          go_wp2
          go_ret
          exact ⟨⟨_, rfl, Or.inr ⟨z0, z1, unhide HZ⟩⟩, hbel⟩
  · go_enter Tryz.func9, Tryz.ntmps9
    go_wp2
    go_ret
    exact ⟨⟨_, rfl, Or.inl (by omega)⟩, (by repeat (first | exact Below.refl _ _ | assumption | refine below_drewN ?_ _ | refine Below.drew ?_ | refine Below.alloc ?_ (by first | exact Nat.le_refl _ | exact Below.size (by assumption) | (simp; done) | (simp; omega)) _ | refine Below.setCell ?_ (by first | exact Nat.le_refl _ | exact Below.size (by assumption) | (simp; done) | (simp; omega)) _ | refine Below.trans ?_ (by assumption)))⟩
end Go.Proofs.YtfopmobopmdahaaGreat
