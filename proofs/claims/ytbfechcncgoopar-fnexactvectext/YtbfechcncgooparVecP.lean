/- What l12Dec of the model returns at 0 and 1, and what VecText of the model returns. -/
import Derived.Test.YtbfechcncgooparVecE
import Derived.Deep.AppendLies
import Derived.Laws.Cover4
namespace Go.Proofs.Ytbfechcncgoopar
open Go.ChangeShapes Go.WideShapes Go.ChangeAt Go.RowKit Go.Joins
set_option linter.unusedVariables false

/-- A bit's digit. -/
def digB (b : Int) : ByteArray := if b = 0 then ⟨#[48]⟩ else ⟨#[49]⟩
/-- The text of a number, as far as its k highest bits. -/
def txt (a n : Int) : Nat → ByteArray
  | 0 => ⟨#[35]⟩
  | k + 1 => txt a n k ++ digB (n / two (a - 1 - (k : Int)) % 2)
theorem digB_size (b : Int) : (digB b).size = 1 := by unfold digB; split <;> rfl
theorem txt_size (a n : Int) (k : Nat) : (txt a n k).size = k + 1 := by
  induction k with
  | zero => rfl
  | succ k ih => simp only [txt, ByteArray.size_append, ih, digB_size]
/-- The text of a number, empty of one that is not right. -/
def txtV (a n : Int) : ByteArray := if okB a n = true then txt a n a.toNat else ⟨#[]⟩

theorem int_eq {k : IntKind} {a b : Int} (h : a = b) : Value.int k a = Value.int k b := by rw [h]
theorem conv1 (x : Int) (w : World) : (convert 69 9 (.slice (some ⟨w.heap.size, 0, none⟩) 1 1)).run Try.prog (w.alloc (.cells #[.int .u8 x] 5)) = .ok (.string (ByteArray.empty.push (UInt8.ofNat x.toNat))) (w.alloc (.cells #[.int .u8 x] 5)) := by
  rw [run_convert_bytes_string _ 69 9 5 _ _ _ Try.underlying69 Try.underlying5 Try.underlying9]
  exact run_bytesToString _ _ _ _ [x] (run_loadCells_list _ _ [.int .u8 x] (cell_one_new _ _ _))
set_option maxHeartbeats 400000 in
theorem dec_any (n : Int) (w : World) (h : n = 0 ∨ n = 1) :
    Calls Try.prog 39 #[.int .i64 n] w fun e w' => e = .returned (.string (digB n)) ∧ Below w.heap.size w w' := by
  rcases h with rfl | rfl
  all_goals
    have hcv := conv1
    go_enter Try.func39, Try.ntmps39
    go_wp2
    refine wp_loop_rounds 1 ?_
    rw [rounds_succ]
    go_wp2
    go_ret
    exact ⟨rfl, (by repeat (first | exact Below.refl _ _ | assumption | refine below_drewN ?_ _ | refine Below.drew ?_ | refine Below.alloc ?_ (by first | exact Nat.le_refl _ | exact Below.size (by assumption) | (simp; done) | (simp; omega)) _ | refine Below.setCell ?_ (by first | exact Nat.le_refl _ | exact Below.size (by assumption) | (simp; done) | (simp; omega)) _ | refine Below.trans ?_ (by assumption)))⟩
set_option maxHeartbeats 1000000 in
theorem sVecText_any (a n : Int) (w : World) :
    Calls Try.prog 21 #[.agg #[.int .i64 a, .int .i64 n]] w fun e w' => e = .returned (.string (txtV a n)) ∧ Below w.heap.size w w' := by
  unfold txtV
  by_cases hok : okB a n = true
  · rw [if_pos hok]
    obtain ⟨h1, h2, h3, h4, h5⟩ := ok_of hok
    obtain ⟨m, rfl⟩ := Int.eq_ofNat_of_zero_le (show 0 ≤ a by omega)
    rw [Int.toNat_natCast]
    go_enter Try.func21, Try.ntmps21
    go_wp2_with fail
    refine (sVecOk_any _ _ _).mono ?_
    rintro e w1 ⟨rfl, b1⟩
    have p0 : w1.cell? ⟨w.heap.size, 0, none⟩ = some (.int .i64 (m : Int)) := cell_later b1 (by simp)
    have p1 : w1.cell? ⟨w.heap.size, 1, none⟩ = some (.int .i64 n) := cell_later b1 (by simp)
    simp only [World.size_alloc] at b1
    have z1 := b1.size
    simp only [World.size_alloc] at z1
    have e1 := ((Below.refl w.heap.size w).alloc (Nat.le_refl _) (.cells #[.int .i64 (m : Int), .int .i64 n] 25)).trans (b1.mono (by simp))
    rw [hok]
    clear b1
    go_wp2
    go_loopw [3, 4] (fun t i wr => ∃ k : Nat, k ≤ m ∧ i = .int .i64 ((m : Int) - 1 - (k : Int)) ∧ t = .string (txt m n k) ∧ Below w1.heap.size w1 wr) (fun _ i _ => (intOf i + 1).toNat)
    case atStart => exact ⟨0, Nat.zero_le _, by simp, rfl, Below.refl _ _⟩
    case round =>
      obtain ⟨k, hk, rfl, rfl, hb⟩ := hrel
      have q1 := cell_later hb p1
      have q0 := cell_later hb p0
      by_cases hlt : k < m
      · have ht := two_vals ((m : Int) - 1 - (k : Int)) (by omega) (by omega)
        have hs1 := txt_size m n k
        have hb01 : n / two ((m : Int) - 1 - (k : Int)) % 2 = 0 ∨ n / two ((m : Int) - 1 - (k : Int)) % 2 = 1 := by omega
        have hs2 := digB_size (n / two ((m : Int) - 1 - (k : Int)) % 2)
        have HX := hide (show txt m n (k + 1) = txt m n k ++ digB (n / two ((m : Int) - 1 - (k : Int)) % 2) from rfl)
        clear ht
        go_wp2_with fail
        refine (bit_any _ _ _ (by omega) (by omega) (by omega) (by omega)).mono ?_
        rintro e w2 ⟨rfl, rfl⟩
        go_wp2_with fail
        refine (dec_any _ _ hb01).mono ?_
        rintro e w3 ⟨rfl, b3⟩
        have hz := hb.size
        have hb3 := hb.trans (b3.mono hz)
        go_wp2
        go_roundw
        case rel => exact ⟨k + 1, by omega, int_eq (by omega), by rw [unhide HX], hb3⟩
        case measure => simp [intOf]; omega
      · have e : k = m := by omega
        subst e
        go_wp2
        go_ret
        exact ⟨rfl, e1.trans (hb.mono (by omega))⟩
  · rw [if_neg hok]
    have hf : okB a n = false := by simpa using hok
    go_enter Try.func21, Try.ntmps21
    go_wp2_with fail
    refine (sVecOk_any _ _ _).mono ?_
    rintro e w1 ⟨rfl, b1⟩
    simp only [World.size_alloc] at b1
    go_wp2
    go_ret
    have e1 := (Below.refl w.heap.size w).alloc (Nat.le_refl _) (.cells #[.int .i64 a, .int .i64 n] 25)
    exact ⟨rfl, e1.trans (b1.mono (by simp))⟩
end Go.Proofs.Ytbfechcncgoopar
