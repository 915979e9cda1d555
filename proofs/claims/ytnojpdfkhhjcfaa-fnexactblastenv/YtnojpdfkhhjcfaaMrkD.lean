/- What the laws write into names to see whose memory they are. -/
import Derived.Test.YtnojpdfkhhjcfaaDecC
import Derived.Test.YtnojpdfkhhjcfaaRngA
import Derived.Deep.AppendLies
import Derived.Laws.Cover4
namespace Go.Proofs.Ytnojpdfkhhjcfaa
open Go.ChangeShapes Go.WideShapes Go.ChangeAt Go.RowKit Go.Joins
set_option linter.unusedVariables false
set_option linter.unusedSimpArgs false

set_option maxHeartbeats 2000000 in
theorem toDeclS_made (a : Option Addr) (n cap : Nat) (S : Nat → ByteArray) (V : Nat → Int) (w : World) (hd : DecsAt w a n S V) (hn : n ≤ 1048576) :
    Calls Try.prog 7 #[.slice a n cap] w fun e w' => e = .returned (.slice (some ⟨w.heap.size, 0, none⟩) n n) ∧ Decs w' w.heap.size 0 n S V ∧ Made w' w.heap.size (n * 2) ∧ Below w.heap.size w w' := by
  have hmk := run_make_wide (P := Try.prog) 27 44 _ 2 24 Try.underlying27 infoDecl .i64 .i64 n (by omega) (by omega)
  rcases hd with rfl | ⟨b, off, rfl, hb, hd⟩
  · simp only [Int.natCast_zero, Nat.zero_mul] at hmk
    go_enter Try.func7, Try.ntmps7
    go_wp2
    go_loopw [4] (fun i wr => i = .int .i64 0 ∧ wr.heap.size = w.heap.size + 1 ∧ Below w.heap.size w wr) (fun _ _ => 0)
    case atStart => exact ⟨rfl, by simp, (by repeat (first | exact Below.refl _ _ | assumption | refine below_drewN ?_ _ | refine Below.drew ?_ | refine Below.alloc ?_ (by first | exact Nat.le_refl _ | exact Below.size (by assumption) | (simp; done) | (simp; omega)) _ | refine Below.setCell ?_ (by first | exact Nat.le_refl _ | exact Below.size (by assumption) | (simp; done) | (simp; omega)) _ | refine Below.trans ?_ (by assumption)))⟩
    case round =>
      obtain ⟨rfl, hsz, hbel⟩ := hrel
      go_wp2
      go_ret
      exact ⟨rfl, fun i hi => by omega, ⟨by omega, fun j hj => by omega⟩, hbel⟩
  · have HD := hide hd
    clear hd
    go_enter Try.func7, Try.ntmps7
    go_wp2
    go_loopw [4] (fun i wr => ∃ k : Nat, k ≤ n ∧ i = .int .i64 k ∧ Decs wr w.heap.size 0 k S V ∧ Made wr w.heap.size (n * 2) ∧ Below w.heap.size w wr) (fun i _ => n - (intOf i).toNat)
    case atStart => exact ⟨0, by omega, rfl, fun i hi => by omega, Made.new _ _ _ _, (by repeat (first | exact Below.refl _ _ | assumption | refine below_drewN ?_ _ | refine Below.drew ?_ | refine Below.alloc ?_ (by first | exact Nat.le_refl _ | exact Below.size (by assumption) | (simp; done) | (simp; omega)) _ | refine Below.setCell ?_ (by first | exact Nat.le_refl _ | exact Below.size (by assumption) | (simp; done) | (simp; omega)) _ | refine Below.trans ?_ (by assumption)))⟩
    case round =>
      obtain ⟨k, hk, rfl, hdk, hmd, hbel⟩ := hrel
      have HK := hide hdk
      have HM := hide hmd
      clear hdk hmd
      have hlt0 := (unhide HM).1
      by_cases hlt : k < n
      · obtain ⟨c0, c1⟩ := unhide HD k hlt
        have d0 := (hbel.cell (p := ⟨b, off + k * 2, none⟩) hb).trans c0
        have d1 := (hbel.cell (p := ⟨b, off + k * 2 + 1, none⟩) hb).trans c1
        clear c0 c1
        go_wp2_with fail
        refine (toDecl_any _ _ _).mono ?_
        rintro e w1 ⟨rfl, b1⟩
        have HM1 := hide ((unhide HM).later b1)
        have HK1 := hide ((unhide HK).later b1)
        obtain ⟨⟨u0, q0⟩, f0⟩ := (unhide HM1).2 (k * 2) (by omega)
        obtain ⟨⟨u1, q1⟩, f1⟩ := (unhide HM1).2 (k * 2 + 1) (by omega)
        have l1 := (unhide HM1).1
        go_wp2
        go_roundw
        case rel => exact ⟨k + 1, by omega, by go_num, (unhide HK1).put q0 q1, ((unhide HM1).set _ _).set _ _, ((hbel.trans (b1.mono hbel.size)).setCell (Nat.le_refl _) _).setCell (Nat.le_refl _) _⟩
        case measure => simp [intOf]; omega
      · have e : k = n := by omega
        subst e
        go_wp2
        go_ret
        exact ⟨rfl, unhide HK, unhide HM, hbel⟩
theorem conv_byt (x : Int) (w : World) : (convert 63 9 (.slice (some ⟨w.heap.size, 0, none⟩) 1 1)).run Try.prog (w.alloc (.cells #[.int .u8 x] 5)) = .ok (.string (ByteArray.empty.push (UInt8.ofNat x.toNat))) (w.alloc (.cells #[.int .u8 x] 5)) := by
  rw [run_convert_bytes_string _ 63 9 5 _ _ _ Try.underlying63 Try.underlying5 Try.underlying9]
  exact run_bytesToString _ _ _ _ [x] (run_loadCells_list _ _ [.int .u8 x] (cell_one_new _ _ _))
set_option maxHeartbeats 1000000 in
theorem markText_any (n : Nat) (w : World) (h0 : 0 < n) (h : n < 1000000000) :
    Calls Try.prog 29 #[.int .i64 (n : Int)] w fun e w' => (∃ s, e = .returned (.string s) ∧ s.size ≤ 10) ∧ Below w.heap.size w w' := by
  have hcv := conv_byt
  have hd : decide ((n : Int) ≤ 0) = false := by simp; omega
  go_enter Try.func29, Try.ntmps29
  go_wp2
  go_loopw [0, 3] (fun i t wr => ∃ (k j : Nat) (s : ByteArray), i = .int .i64 (k : Int) ∧ t = .string s ∧ s.size = j ∧ j ≤ 9 ∧ k < 10 ^ (9 - j) ∧ Below w.heap.size w wr) (fun i _ _ => (intOf i).toNat)
  case atStart => exact ⟨n, 0, ByteArray.empty, rfl, rfl, rfl, by omega, by simpa using h, Below.refl _ _⟩
  case round =>
    obtain ⟨k, j, s, rfl, rfl, rfl, hj, hk, hb⟩ := hrel
    have hk9 : k < 1000000000 := Nat.lt_of_lt_of_le hk (Nat.pow_le_pow_right (by omega) (show 9 - s.size ≤ 9 by omega))
    by_cases h9 : 0 < k
    · have hj9 : s.size < 9 := by
        rcases Nat.lt_or_ge s.size 9 with h | h
        · exact h
        · have : 9 - s.size = 0 := by omega
          rw [this] at hk
          simp at hk; omega
      have HK : Hid (k / 10 < 10 ^ (9 - (s.size + 1))) := by
        have e : 9 - s.size = (9 - (s.size + 1)) + 1 := by omega
        rw [e, Nat.pow_succ] at hk
        show _ < _
        omega
      have hg : decide ((k : Int) > 0) = true := by simp; omega
      clear hk
      go_wp2
      go_roundw
      case rel => exact ⟨k / 10, s.size + 1, _, congrArg (Value.int .i64) (by omega), rfl, by simp [ByteArray.size_append, ByteArray.size_push]; omega, by omega, unhide HK, hb.alloc hb.size _⟩
      case measure => simp [intOf]; omega
    · have hg : decide ((k : Int) > 0) = false := by simp; omega
      clear hk
      go_wp2
      go_ret
      exact ⟨⟨_, rfl, by rw [ByteArray.size_append]; have h1 : (ByteArray.mk #[109]).size = 1 := rfl; omega⟩, hb⟩
set_option maxHeartbeats 1000000 in
theorem markDeclS_from (k0 : Nat) (B n cap : Nat) (w : World) (h0 : 0 < k0) (h1 : k0 ≤ 100000000) (hm : Made w B (n * 2)) (hn : n ≤ 1048576) :
    Calls Try.prog 13 #[.slice (some ⟨B, 0, none⟩) n cap, .int .i64 (k0 : Int)] w fun e w' => e = .returned (.int .i64 ((k0 + 2 * n : Nat) : Int)) ∧ Made w' B (n * 2) ∧ Mov B w w' := by
  have HM0 := hide hm
  have hB1 := hm.1
  clear hm
  go_enter Try.func13, Try.ntmps13
  go_wp2
  go_loopw [5, 1] (fun i s wr => ∃ k : Nat, k ≤ n ∧ i = .int .i64 k ∧ s = .int .i64 ((k0 + 2 * k : Nat) : Int) ∧ Made wr B (n * 2) ∧ Mov B w wr) (fun i _ _ => n - (intOf i).toNat)
  case atStart => exact ⟨0, by omega, rfl, rfl, unhide HM0, Mov.refl _ _⟩
  case round =>
    obtain ⟨k, hk, rfl, rfl, hmd, hv⟩ := hrel
    have HM := hide hmd
    have HV := hide hv
    clear hmd hv
    by_cases hlt : k < n
    · go_wp2_with fail
      refine (markText_any (k0 + 2 * k) _ (by omega) (by omega)).mono ?_
      rintro e w1 ⟨⟨s, rfl, hs⟩, b1⟩
      have HM1 := hide ((unhide HM).later b1)
      obtain ⟨⟨u0, q0⟩, f0⟩ := (unhide HM1).2 (k * 2) (by omega)
      obtain ⟨⟨u1, q1⟩, f1⟩ := (unhide HM1).2 (k * 2 + 1) (by omega)
      have HV1 := hide ((unhide HV).trans (Mov.of b1))
      have hs2 := hs
      clear b1
      go_wp2
      go_roundw
      case rel => exact ⟨k + 1, by omega, by go_num, by first | rfl | go_num, ((unhide HM1).set _ _).set _ _, ((unhide HV1).trans (Mov.set _ _ _)).trans (Mov.set _ _ _)⟩
      case measure => simp [intOf]; omega
    · have e : k = n := by omega
      subst e
      go_wp2
      go_ret
      exact ⟨rfl, unhide HM, unhide HV⟩
end Go.Proofs.Ytnojpdfkhhjcfaa
