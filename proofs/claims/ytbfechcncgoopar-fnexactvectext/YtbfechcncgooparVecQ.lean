/- What VecText of the program returns: as the model's. -/
import Derived.Test.YtbfechcncgooparVecP
namespace Go.Proofs.Ytbfechcncgoopar
open Go.ChangeShapes Go.WideShapes Go.ChangeAt Go.RowKit Go.Joins
set_option linter.unusedVariables false

/-- The letters of a number's text, as far as its k highest bits. -/
def runes (a n : Int) : Nat → List Int
  | 0 => [35]
  | k + 1 => runes a n k ++ [48 + n / two (a - 1 - (k : Int)) % 2]
theorem runes_length (a n : Int) (k : Nat) : (runes a n k).length = k + 1 := by
  induction k with
  | zero => rfl
  | succ k ih => simp [runes, ih]
theorem encode_dig (b : Int) (h : b = 0 ∨ b = 1) : Utf8.encode (48 + b) = digB b := by
  rcases h with rfl | rfl <;> decide +kernel
theorem runes_txt (a n : Int) (k : Nat) : runesBytes (runes a n k) = txt a n k := by
  induction k with
  | zero => exact (show runesBytes [35] = ⟨#[35]⟩ from by decide +kernel)
  | succ k ih =>
    have h : runesBytes (runes a n (k + 1)) = runesBytes (runes a n k) ++ Utf8.encode (48 + n / two (a - 1 - (k : Int)) % 2) := by simp [runesBytes, runes]
    rw [h, ih, encode_dig _ (by omega)]
    rfl
theorem infoR : (Try.prog.info? 21).map (fun i => (i.zero, i.size, i.bytes)) = some (some (.int .i32 0), 1, 4) := by kernel_rfl
theorem convR (w : World) (g n cap : Nat) (ns : List Int) (hl : ns.length = n) (h : ∀ j u, (ns.map (Value.int .i32))[j]? = some u → w.cell? ((⟨g, 0, none⟩ : Addr).add j) = some u) :
    (convert 58 9 (.slice (some ⟨g, 0, none⟩) n cap)).run Try.prog w = .ok (.string (runesBytes ns)) w := by
  rw [run_convert_runes_string _ 58 9 21 _ _ _ Try.underlying58 Try.underlying21 Try.underlying9]
  refine run_runesToString _ _ _ _ ns ?_
  have e := run_loadCells_list (P := Try.prog) w ⟨g, 0, none⟩ (ns.map (Value.int .i32)) h
  simpa [hl] using e
set_option maxHeartbeats 1000000 in
theorem iVecText_any (a n : Int) (w : World) :
    Calls Try.prog 22 #[.agg #[.int .i64 a, .int .i64 n]] w fun e w' => e = .returned (.string (txtV a n)) ∧ Below w.heap.size w w' := by
  unfold txtV
  by_cases hok : okB a n = true
  · rw [if_pos hok]
    obtain ⟨h1, h2, h3, h4, h5⟩ := ok_of hok
    obtain ⟨m, rfl⟩ := Int.eq_ofNat_of_zero_le (show 0 ≤ a by omega)
    rw [Int.toNat_natCast]
    obtain ⟨i0, hi, hz0, hz1, hz2⟩ := info_parts infoR
    go_enter Try.func22, Try.ntmps22
    go_wp2_with fail
    refine (iVecOk_any _ _ _).mono ?_
    rintro e w1 ⟨rfl, b1⟩
    have p0 : w1.cell? ⟨w.heap.size, 0, none⟩ = some (.int .i64 (m : Int)) := cell_later b1 (by simp)
    have p1 : w1.cell? ⟨w.heap.size, 1, none⟩ = some (.int .i64 n) := cell_later b1 (by simp)
    simp only [World.size_alloc] at b1
    have z1 := b1.size
    simp only [World.size_alloc] at z1
    have e1 := ((Below.refl w.heap.size w).alloc (Nat.le_refl _) (.cells #[.int .i64 (m : Int), .int .i64 n] 25)).trans (b1.mono (by simp))
    have y0 : w.heap.size < w1.heap.size := by omega
    rw [hok]
    clear b1
    go_wp2
    go_loopw [3, 4] (fun t i wr => ∃ (k g cap : Nat), k ≤ m ∧ i = .int .i64 ((m : Int) - 1 - (k : Int)) ∧ t = .slice (some ⟨g, 0, none⟩) (k + 1) cap ∧ wr.ownsRow w1.heap.size 21 1 (.slice (some ⟨g, 0, none⟩) (k + 1) cap) (k + 1) ((runes m n k).map (Value.int .i32)) ∧ Below w1.heap.size w1 wr) (fun _ i _ => (intOf i + 1).toNat)
    case atStart =>
      refine ⟨0, w1.heap.size, 1, Nat.zero_le _, by simp, rfl, ⟨rfl, Or.inr ⟨_, _, #[.int .i32 35], rfl, Nat.le_refl _, heap_alloc_new _ _, by omega, by unfold maxLen; omega, rfl, rfl⟩⟩, (Below.refl _ _).alloc (Nat.le_refl _) _⟩
    case round =>
      obtain ⟨k, g, cap, hk, rfl, rfl, hown, hb⟩ := hrel
      have q1 := cell_later hb p1
      have q0 := cell_later hb p0
      by_cases hlt : k < m
      · have ht := two_vals ((m : Int) - 1 - (k : Int)) (by omega) (by omega)
        have hb0 : 0 ≤ n / two ((m : Int) - 1 - (k : Int)) % 2 := by omega
        have hb1 : n / two ((m : Int) - 1 - (k : Int)) % 2 ≤ 1 := by omega
        have HX := hide (show runes m n (k + 1) = runes m n k ++ [48 + n / two ((m : Int) - 1 - (k : Int)) % 2] from rfl)
        clear ht
        go_wp2_with fail
        refine (wbit_any _ _ _ (by omega) (by omega) (by omega) (by omega)).mono ?_
        rintro e w2 ⟨rfl, rfl⟩
        have hz := hb.size
        generalize n / two ((m : Int) - 1 - (k : Int)) % 2 = bt at *
        go_wp2_with (at_builtin; refine wpList_append_lies _ rfl _ _ 58 rfl w1.heap.size 21 i0 (.int .i32 0) 1 4 Try.underlying58 hi hz0 hz1 hz2 rfl (by omega) _ _ _ rfl (hown.alloc _) ⟨w2.heap.size, 0, none⟩ 1 1 [.int .i32 (48 + bt)] rfl rfl (cell_one_new _ _ _) (fun x hx => by simp at hx; subst hx; rfl) (by omega) (by unfold maxLen; omega) (by omega) (by simp; omega) _ rfl ?_; intro g' cap' w3 hown3 hgrow3 hat3 hlt3)
        exact ⟨⟨k + 1, g', cap', by omega, int_eq (by omega), rfl, by rw [unhide HX, List.map_append]; exact hown3, (hb.alloc hz _).grown hgrow3 (by simp; omega) (fun q hq => (hown.lt q hq).1)⟩, by simp [intOf]; omega⟩
      · have e : k = m := by omega
        subst e
        have hcv := convR wr g (k + 1) cap (runes k n k) (runes_length _ _ _) (hown.cells rfl)
        rw [runes_txt] at hcv
        go_wp2
        go_ret
        exact ⟨rfl, e1.trans (hb.mono (by omega))⟩
  · rw [if_neg hok]
    have hf : okB a n = false := by simpa using hok
    go_enter Try.func22, Try.ntmps22
    go_wp2_with fail
    refine (iVecOk_any _ _ _).mono ?_
    rintro e w1 ⟨rfl, b1⟩
    simp only [World.size_alloc] at b1
    go_wp2
    go_ret
    have e1 := (Below.refl w.heap.size w).alloc (Nat.le_refl _) (.cells #[.int .i64 a, .int .i64 n] 25)
    exact ⟨rfl, e1.trans (b1.mono (by simp))⟩
end Go.Proofs.Ytbfechcncgoopar
