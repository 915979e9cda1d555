/- What VecRead of the model and of the program return: a number and true where the text is that of a right number, nothing and false else; for every text that takes at most 1048576 bytes. -/
import Derived.Test.YtbfechcncgoopasVecE
import Derived.Lib.OthersKept
import Derived.Laws.RangeAny
namespace Go.Proofs.Ytbfechcncgoopas
open Go.ChangeShapes Go.WideShapes Go.ChangeAt Go.RowKit Go.Joins
set_option linter.unusedVariables false
attribute [local go_sem ↓] Go.wp_at_zero Go.wp_at_succ

/-- A byte of a text. -/
def byt (s : ByteArray) (i : Nat) : Nat := (s.get! i).toNat
theorem byt_eq (s : ByteArray) (i : Nat) (h : i < s.size) : (s[i]'h).toNat = byt s i := by
  have := get_at s i h
  simp only [Nat.add_zero] at this
  rw [byt, this]
theorem byt_lt (s : ByteArray) (i : Nat) : byt s i < 256 := UInt8.toNat_lt _
/-- The bytes 1 to k are binary digits. -/
def Digs (s : ByteArray) (k : Nat) : Prop := ∀ j, 1 ≤ j → j ≤ k → (byt s j = 48 ∨ byt s j = 49)
/-- The text of a right number. -/
def Good (s : ByteArray) : Prop := 2 ≤ s.size ∧ s.size ≤ 5 ∧ byt s 0 = 35 ∧ Digs s (s.size - 1)
/-- The number of the digits 1 to k. -/
def valR (s : ByteArray) : Nat → Int
  | 0 => 0
  | k + 1 => valR s k * 2 + ((byt s (k + 1) : Int) - 48)
theorem valR_bd (s : ByteArray) (k : Nat) (hk : k ≤ 4) (h : Digs s k) : 0 ≤ valR s k ∧ valR s k < two k := by
  induction k with
  | zero => simp [valR, two]
  | succ k ih =>
    have i := ih (by omega) (fun j a b => h j a (by omega))
    have d := h (k + 1) (by omega) (by omega)
    have e : two ((k + 1 : Nat) : Int) = two k * 2 := by simp [two, Nat.pow_succ]
    rw [e]
    simp only [valR]
    omega
theorem Digs.succ {s : ByteArray} {k : Nat} (h : Digs s k) (d : byt s (k + 1) = 48 ∨ byt s (k + 1) = 49) : Digs s (k + 1) := by
  intro j a b
  by_cases e : j = k + 1
  · subst e; exact d
  · exact h j a (by omega)

set_option maxHeartbeats 1000000 in
theorem sVecRead_any (s : ByteArray) (w : World) (hs : s.size ≤ 1048576) :
    Calls Try.prog 5 #[.string s] w fun e w' => (Good s ∧ e = .returned (yesV ((s.size : Int) - 1) (valR s (s.size - 1))) ∨ ¬ Good s ∧ e = .returned noV) ∧ Below w.heap.size w w' := by
  by_cases h2 : s.size < 2
  · have G : Hid (¬ Good s) := fun g => by have := g.1; omega
    go_enter Try.func5, Try.ntmps5
    go_wp2
    exact bodyPost_ret (v := noV) (by simp [results, Try.results5, go_sem, noV]) rfl ⟨Or.inr ⟨unhide G, rfl⟩, (by repeat (first | exact Below.refl _ _ | assumption | refine below_drewN ?_ _ | refine Below.drew ?_ | refine Below.alloc ?_ (by first | exact Nat.le_refl _ | exact Below.size (by assumption) | (simp; done) | (simp; omega)) _ | refine Below.setCell ?_ (by first | exact Nat.le_refl _ | exact Below.size (by assumption) | (simp; done) | (simp; omega)) _ | refine Below.trans ?_ (by assumption)))⟩
  · by_cases h5 : 5 < s.size
    · have G : Hid (¬ Good s) := fun g => by have := g.2.1; omega
      go_enter Try.func5, Try.ntmps5
      go_wp2
      exact bodyPost_ret (v := noV) (by simp [results, Try.results5, go_sem, noV]) rfl ⟨Or.inr ⟨unhide G, rfl⟩, (by repeat (first | exact Below.refl _ _ | assumption | refine below_drewN ?_ _ | refine Below.drew ?_ | refine Below.alloc ?_ (by first | exact Nat.le_refl _ | exact Below.size (by assumption) | (simp; done) | (simp; omega)) _ | refine Below.setCell ?_ (by first | exact Nat.le_refl _ | exact Below.size (by assumption) | (simp; done) | (simp; omega)) _ | refine Below.trans ?_ (by assumption)))⟩
    · have hb0 := byt_eq s 0 (by omega)
      have t2 : decide ((s.size : Int) < 2) = false := by simp; omega
      have t5 : decide (5 < (s.size : Int)) = false := by simp; omega
      by_cases h0 : byt s 0 = 35
      · go_enter Try.func5, Try.ntmps5
        go_wp2
        go_loopw [5] (fun i wr => ∃ k : Nat, k + 1 ≤ s.size ∧ i = .int .i64 ((k : Int) + 1) ∧ Digs s k ∧ wr.cell? ⟨w.heap.size + 1, 0, none⟩ = some (.int .i64 ((s.size : Int) - 1)) ∧ wr.cell? ⟨w.heap.size + 1, 1, none⟩ = some (.int .i64 (valR s k)) ∧ wr.frozen? ⟨w.heap.size + 1, 1, none⟩ = false
            ∧ wr.cell? ⟨w.heap.size, 0, none⟩ = some (.int .i64 0) ∧ wr.cell? ⟨w.heap.size, 1, none⟩ = some (.int .i64 0) ∧ wr.frozen? ⟨w.heap.size, 0, none⟩ = false ∧ wr.frozen? ⟨w.heap.size, 1, none⟩ = false ∧ Below w.heap.size w wr) (fun i _ => s.size - (intOf i).toNat)
        case atStart => exact ⟨0, by omega, rfl, fun j a b => by omega, by simp [go_sem], by simp [go_sem, valR], by simp [go_sem], by simp [go_sem], by simp [go_sem], by simp [go_sem], by simp [go_sem], (by repeat (first | exact Below.refl _ _ | assumption | refine below_drewN ?_ _ | refine Below.drew ?_ | refine Below.alloc ?_ (by first | exact Nat.le_refl _ | exact Below.size (by assumption) | (simp; done) | (simp; omega)) _ | refine Below.setCell ?_ (by first | exact Nat.le_refl _ | exact Below.size (by assumption) | (simp; done) | (simp; omega)) _ | refine Below.trans ?_ (by assumption)))⟩
        case round =>
          obtain ⟨k, hk, rfl, hd, c0, c1, f1, r0, r1, g0, g1, hb⟩ := hrel
          by_cases hlt : k + 1 < s.size
          · have hbk := byt_eq s (k + 1) hlt
            have hbl := byt_lt s (k + 1)
            by_cases hd48 : byt s (k + 1) = 48 ∨ byt s (k + 1) = 49
            · have hv := valR_bd s k (by omega) hd
              have ht := two_vals k (by omega) (by omega)
              have hv0 := hv.1
              have hv1 : valR s k ≤ 15 := by omega
              have HD := hide (hd.succ hd48)
              have HV := hide (show valR s (k + 1) = valR s k * 2 + ((byt s (k + 1) : Int) - 48) from rfl)
              clear hv ht hd
              generalize valR s k = V at *
              rcases hd48 with h48 | h48
              all_goals
                rw [h48] at hbk
                have HB := hide h48
                clear h48
                have n0 : w.heap.size + 1 ≠ w.heap.size := by omega
                go_wp2
                go_region
                all_goals
                  go_wp2
                  go_roundw
                  case rel =>
                    exact ⟨k + 1, by omega, by go_num, unhide HD, by simp [go_sem, c0], by rw [unhide HV, unhide HB]; simp [go_sem, c1], by simp [go_sem, f1], by simp [go_sem, r0], by simp [go_sem, r1], by simp [go_sem, g0], by simp [go_sem, g1], (by repeat (first | exact Below.refl _ _ | assumption | refine below_drewN ?_ _ | refine Below.drew ?_ | refine Below.alloc ?_ (by first | exact Nat.le_refl _ | exact Below.size (by assumption) | (simp; done) | (simp; omega)) _ | refine Below.setCell ?_ (by first | exact Nat.le_refl _ | exact Below.size (by assumption) | (simp; done) | (simp; omega)) _ | refine Below.trans ?_ (by assumption)))⟩
                  case measure => simp [intOf]; omega
            · have G : Hid (¬ Good s) := fun g => hd48 (g.2.2.2 (k + 1) (by omega) (by omega))
              have q48 : (((byt s (k + 1) : Nat) : Int) != 48) = true := by simp; omega
              have q49 : (((byt s (k + 1) : Nat) : Int) != 49) = true := by simp; omega
              have HH := hide hd
              clear hd hd48
              go_wp2
              exact bodyPost_ret (v := noV) (by simp [results, Try.results5, go_sem, noV, r0, r1]) rfl ⟨Or.inr ⟨unhide G, rfl⟩, (by repeat (first | exact Below.refl _ _ | assumption | refine below_drewN ?_ _ | refine Below.drew ?_ | refine Below.alloc ?_ (by first | exact Nat.le_refl _ | exact Below.size (by assumption) | (simp; done) | (simp; omega)) _ | refine Below.setCell ?_ (by first | exact Nat.le_refl _ | exact Below.size (by assumption) | (simp; done) | (simp; omega)) _ | refine Below.trans ?_ (by assumption)))⟩
          · have e : k = s.size - 1 := by omega
            have G : Hid (Good s) := ⟨by omega, by omega, h0, by rw [← e]; exact hd⟩
            have HE := hide e
            clear e hd
            go_wp2
            exact bodyPost_ret (v := yesV ((s.size : Int) - 1) (valR s k)) (by simp [results, Try.results5, go_sem, yesV, r0, r1]) rfl ⟨Or.inl ⟨unhide G, by rw [unhide HE]⟩, (by repeat (first | exact Below.refl _ _ | assumption | refine below_drewN ?_ _ | refine Below.drew ?_ | refine Below.alloc ?_ (by first | exact Nat.le_refl _ | exact Below.size (by assumption) | (simp; done) | (simp; omega)) _ | refine Below.setCell ?_ (by first | exact Nat.le_refl _ | exact Below.size (by assumption) | (simp; done) | (simp; omega)) _ | refine Below.trans ?_ (by assumption)))⟩
      · have G : Hid (¬ Good s) := fun g => h0 g.2.2.1
        have t0 : ((((byt s 0 : Nat) : Int)) != 35) = true := by simp; omega
        go_enter Try.func5, Try.ntmps5
        go_wp2
        exact bodyPost_ret (v := noV) (by simp [results, Try.results5, go_sem, noV]) rfl ⟨Or.inr ⟨unhide G, rfl⟩, (by repeat (first | exact Below.refl _ _ | assumption | refine below_drewN ?_ _ | refine Below.drew ?_ | refine Below.alloc ?_ (by first | exact Nat.le_refl _ | exact Below.size (by assumption) | (simp; done) | (simp; omega)) _ | refine Below.setCell ?_ (by first | exact Nat.le_refl _ | exact Below.size (by assumption) | (simp; done) | (simp; omega)) _ | refine Below.trans ?_ (by assumption)))⟩
theorem dec_byte (s : ByteArray) (pos : Nat) (h : pos < s.size) (ha : byt s pos < 128) : Utf8.decode s pos = (byt s pos, 1) := by
  rw [← byt_eq s pos h] at ha ⊢
  exact decode_ascii s pos h ha
theorem dec_ne (s : ByteArray) (pos c : Nat) (h : pos < s.size) (hc : c < 128) (hne : byt s pos ≠ c) : (Utf8.decode s pos).1 ≠ c := by
  by_cases ha : byt s pos < 128
  · rw [dec_byte s pos h ha]; exact hne
  · have := (decode_high s pos h (by rw [byt_eq s pos h]; omega)).1
    omega
theorem iterPos_of {w : World} {k : Nat} {s : ByteArray} {p : Nat} (h : w.heap[k]? = some (.stringIter s p)) : w.iterPos k = p := by simp [World.iterPos, h]
theorem or_tab : ∀ v, v < 8 → ∀ d, d < 2 → bits .or .u32 ((v : Nat) * 2) (d : Nat) = ((v : Nat) : Int) * 2 + ((d : Nat) : Int) := by decide +kernel
set_option maxHeartbeats 1000000 in
theorem iVecRead_any (s : ByteArray) (w : World) (hs : s.size ≤ 1048576) :
    Calls Try.prog 6 #[.string s] w fun e w' => (Good s ∧ e = .returned (yesV ((s.size : Int) - 1) (valR s (s.size - 1))) ∨ ¬ Good s ∧ e = .returned noV) ∧ Below w.heap.size w w' := by
  go_enter Try.func6, Try.ntmps6
  go_wp2
  go_loopw [4, 5] (fun nv wv wr => ∃ pos : Nat, pos ≤ s.size ∧ wr.heap[w.heap.size + 1]? = some (.stringIter s pos) ∧ (pos = 0 ∨ byt s 0 = 35) ∧ Digs s (pos - 1) ∧ pos - 1 ≤ 4 ∧ wv = .int .i64 ((pos - 1 : Nat) : Int) ∧ nv = .int .u32 (valR s (pos - 1))
      ∧ wr.cell? ⟨w.heap.size, 0, none⟩ = some (.int .i64 0) ∧ wr.cell? ⟨w.heap.size, 1, none⟩ = some (.int .i64 0) ∧ wr.frozen? ⟨w.heap.size, 0, none⟩ = false ∧ wr.frozen? ⟨w.heap.size, 1, none⟩ = false ∧ Below w.heap.size w wr) (fun _ _ wr => s.size - wr.iterPos (w.heap.size + 1))
  case atStart =>
    have hI : (w.alloc (.cells #[.int .i64 0, .int .i64 0] 23)).iter s 0 = (w.alloc (.cells #[.int .i64 0, .int .i64 0] 23)).alloc (.stringIter s 0) := rfl
    have hit := World.iter_heap (w.alloc (.cells #[.int .i64 0, .int .i64 0] 23)) s 0
    simp only [World.size_alloc] at hit
    refine ⟨0, by omega, hit, Or.inl rfl, fun j a b => by omega, by omega, rfl, rfl, by rw [hI]; simp [go_sem], by rw [hI]; simp [go_sem], by rw [hI]; simp [go_sem], by rw [hI]; simp [go_sem], by rw [hI]; exact (by repeat (first | exact Below.refl _ _ | assumption | refine below_drewN ?_ _ | refine Below.drew ?_ | refine Below.alloc ?_ (by first | exact Nat.le_refl _ | exact Below.size (by assumption) | (simp; done) | (simp; omega)) _ | refine Below.setCell ?_ (by first | exact Nat.le_refl _ | exact Below.size (by assumption) | (simp; done) | (simp; omega)) _ | refine Below.trans ?_ (by assumption)))⟩
  case round =>
    obtain ⟨pos, hps, hit, h35, hd, h4, rfl, rfl, r0, r1, g0, g1, hb⟩ := hrel
    have hpos0 := iterPos_of hit
    have hbi : ∀ p, Below (w.heap.size + 1) wr (wr.iterAt (w.heap.size + 1) s p) := fun p => Lib.below_iterAt (Below.refl _ _) (Nat.le_refl _) s p
    by_cases hp : pos < s.size
    · -- a letter more
      have hnx : ∀ ty, (Instr.next (.pointer (some ⟨w.heap.size + 1, 0, none⟩)) true ty).run Try.prog wr = _ := fun ty => Lib.run_next_any_at wr (w.heap.size + 1) s pos ty hit hp
      have hit2 := Lib.iterAt_heap wr (w.heap.size + 1) s pos (pos + (Utf8.decode s pos).2) hit
      have hbx := hbi (pos + (Utf8.decode s pos).2)
      have hb2 := hb.trans (hbx.mono (by omega))
      have c0 := (hbx.cell (p := ⟨w.heap.size, 0, none⟩) (by simp)).trans r0
      have c1 := (hbx.cell (p := ⟨w.heap.size, 1, none⟩) (by simp)).trans r1
      have f0 := (hbx.frozen (p := ⟨w.heap.size, 0, none⟩) (by simp)).trans g0
      have f1 := (hbx.frozen (p := ⟨w.heap.size, 1, none⟩) (by simp)).trans g1
      obtain ⟨W1, hW1⟩ : ∃ W1, W1 = wr.iterAt (w.heap.size + 1) s (pos + (Utf8.decode s pos).2) := ⟨_, rfl⟩
      rw [← hW1] at hnx hit2 hb2 c0 c1 f0 f1
      clear hW1 hbx hbi hit hb r0 r1 g0 g1
      by_cases hz : pos = 0
      · subst hz
        have z0 : (((0 : Nat) : Int) == 0) = true := rfl
        by_cases hc : byt s 0 = 35
        · have hdec := dec_byte s 0 hp (by omega)
          rw [hc] at hdec
          simp only [hdec] at hnx hit2
          have HD := hide hdec
          have HC := hide hc
          clear hdec hd hc
          go_wp2
          go_roundw
          case rel => exact ⟨1, by omega, hit2, Or.inr (unhide HC), fun j a b => by omega, by omega, rfl, rfl, c0, c1, f0, f1, hb2⟩
          case measure => rw [iterPos_of hit2, hpos0]; omega
        · have G : Hid (¬ Good s) := fun g => hc g.2.2.1
          have hne := dec_ne s 0 35 hp (by omega) hc
          generalize (Utf8.decode s 0).1 = rn at *
          have hnb : (((rn : Nat) : Int) != 35) = true := by simp; omega
          clear hd
          go_wp2
          exact bodyPost_ret (v := noV) (by simp [results, Try.results6, go_sem, noV, c0, c1]) rfl ⟨Or.inr ⟨unhide G, rfl⟩, (by repeat (first | exact Below.refl _ _ | assumption | refine below_drewN ?_ _ | refine Below.drew ?_ | refine Below.alloc ?_ (by first | exact Nat.le_refl _ | exact Below.size (by assumption) | (simp; done) | (simp; omega)) _ | refine Below.setCell ?_ (by first | exact Nat.le_refl _ | exact Below.size (by assumption) | (simp; done) | (simp; omega)) _ | refine Below.trans ?_ (by assumption)))⟩
      · have h35' : byt s 0 = 35 := h35.resolve_left hz
        obtain ⟨k, rfl⟩ : ∃ k, pos = k + 1 := ⟨pos - 1, by omega⟩
        simp only [Nat.add_sub_cancel] at hd h4 ⊢
        have z0 : ((((k + 1 : Nat) : Int)) == 0) = false := by simp; omega
        have z1 : ((k : Int) + 1 == 0) = false := by simp; omega
        by_cases hdig : byt s (k + 1) = 48 ∨ byt s (k + 1) = 49
        · have hdec := dec_byte s (k + 1) hp (by omega)
          by_cases hk4 : k = 4
          · subst hk4
            have G : Hid (¬ Good s) := fun g => by have := g.2.1; omega
            have HD := hide hdec
            simp only [hdec] at hnx hit2
            clear hdec hd h35 h35' hz
            rcases hdig with hdg | hdg
            all_goals
              rw [hdg] at hnx
              have HG := hide hdg
              clear hdg
              go_wp2
              exact bodyPost_ret (v := noV) (by simp [results, Try.results6, go_sem, noV, c0, c1]) rfl ⟨Or.inr ⟨unhide G, rfl⟩, (by repeat (first | exact Below.refl _ _ | assumption | refine below_drewN ?_ _ | refine Below.drew ?_ | refine Below.alloc ?_ (by first | exact Nat.le_refl _ | exact Below.size (by assumption) | (simp; done) | (simp; omega)) _ | refine Below.setCell ?_ (by first | exact Nat.le_refl _ | exact Below.size (by assumption) | (simp; done) | (simp; omega)) _ | refine Below.trans ?_ (by assumption)))⟩
          · have hv := valR_bd s k (by omega) hd
            have ht := two_vals k (by omega) (by omega)
            have hv0 := hv.1
            have hv1 : valR s k ≤ 7 := by omega
            have HDS := hide (hd.succ hdig)
            have HV := hide (show valR s (k + 1) = valR s k * 2 + ((byt s (k + 1) : Int) - 48) from rfl)
            have H35 := hide h35'
            have k4 : ((k : Int) == 4) = false := by simp; omega
            simp only [hdec] at hnx hit2
            clear hv ht hd h35 h35' hz hdec
            obtain ⟨V, hV⟩ := Int.eq_ofNat_of_zero_le hv0
            have hor0 : bits .or .u32 (valR s k * 2) 0 = valR s k * 2 := by
              have h := or_tab V (by omega) 0 (by omega)
              rw [← hV] at h
              simpa using h
            have hor1 : bits .or .u32 (valR s k * 2) 1 = valR s k * 2 + 1 := by
              have h := or_tab V (by omega) 1 (by omega)
              rw [← hV] at h
              simpa using h
            have HV2 := hide hV
            clear hV
            generalize valR s k = VV at *
            rcases hdig with hdg | hdg
            all_goals
              rw [hdg] at hnx
              have HG := hide hdg
              clear hdg
              go_wp2
              go_roundw
              case rel => exact ⟨k + 2, by omega, hit2, Or.inr (unhide H35), unhide HDS, by omega, by simp, by rw [show k + 2 - 1 = k + 1 from rfl, unhide HV, unhide HG]; simp [*], c0, c1, f0, f1, hb2⟩
              case measure => rw [iterPos_of hit2, hpos0]; omega
        · have G : Hid (¬ Good s) := fun g => hdig (g.2.2.2 (k + 1) (by omega) (by omega))
          have n48 := dec_ne s (k + 1) 48 hp (by omega) (fun e => hdig (Or.inl e))
          have n49 := dec_ne s (k + 1) 49 hp (by omega) (fun e => hdig (Or.inr e))
          generalize (Utf8.decode s (k + 1)).1 = rn at *
          have hnb : (((rn : Nat) : Int) != 48) = true := by simp; omega
          have hnc : (((rn : Nat) : Int) != 49) = true := by simp; omega
          clear hd h35 h35' hz hdig
          go_wp2
          exact bodyPost_ret (v := noV) (by simp [results, Try.results6, go_sem, noV, c0, c1]) rfl ⟨Or.inr ⟨unhide G, rfl⟩, (by repeat (first | exact Below.refl _ _ | assumption | refine below_drewN ?_ _ | refine Below.drew ?_ | refine Below.alloc ?_ (by first | exact Nat.le_refl _ | exact Below.size (by assumption) | (simp; done) | (simp; omega)) _ | refine Below.setCell ?_ (by first | exact Nat.le_refl _ | exact Below.size (by assumption) | (simp; done) | (simp; omega)) _ | refine Below.trans ?_ (by assumption)))⟩
    · have hnx : ∀ ty, (Instr.next (.pointer (some ⟨w.heap.size + 1, 0, none⟩)) true ty).run Try.prog wr = _ := fun ty => Lib.run_next_end_at wr (w.heap.size + 1) s pos ty hit hp
      have hpe : pos = s.size := by omega
      clear hbi hit hpos0
      by_cases hz : pos ≤ 1
      · have G : Hid (¬ Good s) := fun g => by have := g.1; omega
        have z0 : ((((pos - 1 : Nat) : Int)) == 0) = true := by simp; omega
        have z1 : pos - 1 = 0 := by omega
        rw [z1]
        clear hd hpe h35
        go_wp2
        exact bodyPost_ret (v := noV) (by simp [results, Try.results6, go_sem, noV, r0, r1]) rfl ⟨Or.inr ⟨unhide G, rfl⟩, (by repeat (first | exact Below.refl _ _ | assumption | refine below_drewN ?_ _ | refine Below.drew ?_ | refine Below.alloc ?_ (by first | exact Nat.le_refl _ | exact Below.size (by assumption) | (simp; done) | (simp; omega)) _ | refine Below.setCell ?_ (by first | exact Nat.le_refl _ | exact Below.size (by assumption) | (simp; done) | (simp; omega)) _ | refine Below.trans ?_ (by assumption)))⟩
      · obtain ⟨k, rfl⟩ : ∃ k, pos = k + 1 := ⟨pos - 1, by omega⟩
        simp only [Nat.add_sub_cancel] at hd h4 ⊢
        have G : Hid (Good s) := ⟨by omega, by omega, h35.resolve_left (by omega), by rw [← hpe]; exact hd⟩
        have hv := valR_bd s k (by omega) hd
        have hv0 := hv.1
        have hvt := hv.2
        have ht := two_vals k (by omega) (by omega)
        have hv1 : valR s k ≤ 15 := by omega
        have HM := hide (Int.emod_eq_of_lt hv0 hvt)
        have z0 : ((k : Int) == 0) = false := by simp; omega
        have HE := hide (show s.size - 1 = k from by omega)
        have HE2 := hide (show (s.size : Int) - 1 = (k : Int) from by omega)
        have y0 := World.block_lt_of_cell? _ _ r0
        simp only at y0
        clear hv ht hd hpe h35 hvt
        go_wp2_with fail
        refine (vec_any _ _ _ (by omega) (by omega) (by omega) (by omega)).mono ?_
        rintro e w2 ⟨rfl, rfl⟩
        rw [unhide HM]
        go_wp2
        exact bodyPost_ret (v := yesV (k : Int) (valR s k)) (by simp [results, Try.results6, go_sem, yesV, r0, r1, y0]) rfl ⟨Or.inl ⟨unhide G, by rw [unhide HE, unhide HE2]⟩, (by repeat (first | exact Below.refl _ _ | assumption | refine below_drewN ?_ _ | refine Below.drew ?_ | refine Below.alloc ?_ (by first | exact Nat.le_refl _ | exact Below.size (by assumption) | (simp; done) | (simp; omega)) _ | refine Below.setCell ?_ (by first | exact Nat.le_refl _ | exact Below.size (by assumption) | (simp; done) | (simp; omega)) _ | refine Below.trans ?_ (by assumption)))⟩
end Go.Proofs.Ytbfechcncgoopas
