/- Which marks are so (SatVals), of the model and of the program. -/
import Derived.Test.YtndebifmimbeaabSokA
import Derived.Test.YtndebifmimbeaabMrkA
namespace Go.Proofs.Ytndebifmimbeaab
open Go.ChangeShapes Go.WideShapes Go.ChangeAt Go.RowKit Go.Joins
set_option linter.unusedVariables false

/-- A mark is so. -/
def soB (P : Nat → Int) (k i : Nat) : Bool := decide (sgI P k (i + 1) = 1)
theorem soB_next {P : Nat → Int} {k i m : Nat} (hm : absI (P k) = ((m + 1 : Nat) : Int)) (h0 : P k ≠ 0) : soB P (k + 1) i = if i = m then decide (0 < P k) else soB P k i := by
  unfold soB
  rw [sgI, hm]
  by_cases e : i = m
  · subst e
    rw [if_pos rfl, if_pos rfl]
    by_cases h : P k < 0
    · rw [if_pos h]; simp; omega
    · rw [if_neg h]; simp; omega
  · rw [if_neg (by omega), if_neg e]
noncomputable def svLen (m : Int) (ok : Bool) : Nat := if ok then m.toNat else 0
/-- What SatVals hands back. -/
def VOut (l : Nat) (V : Nat → Bool) (base : Nat) (e : Ending) (w' : World) : Prop := ∃ a cap, e = .returned (.slice a l cap) ∧ BlsAt w' a l V ∧ OwnB w' base a l
def bcells (V : Nat → Bool) (k : Nat) : List Value := (List.range k).map fun i => .bool (V i)
theorem bcells_len (V : Nat → Bool) (k : Nat) : (bcells V k).length = k := by simp [bcells]
theorem bcells_snoc (V : Nat → Bool) (k : Nat) : bcells V (k + 1) = bcells V k ++ [.bool (V k)] := by simp [bcells, List.range_succ]
theorem bcells_get (V : Nat → Bool) (k j : Nat) (h : j < k) : (bcells V k)[j]? = some (.bool (V j)) := by
  unfold bcells
  rw [List.getElem?_map, List.getElem?_range h]; rfl
theorem own_bools {w : World} {base n cap : Nat} {e : TypeId} {a : Option Addr} {V : Nat → Bool} (h : w.ownsRow base e 1 (.slice a n cap) n (bcells V n)) : BlsAt w a n V ∧ OwnB w base a n := by
  rcases h.2 with ⟨h', h0⟩ | ⟨g, cap', cur, h', hb, hg, hc, _, hs, ht⟩
  · exact ⟨Or.inl h0, Or.inl h0⟩
  · simp only [Value.slice.injEq] at h'
    obtain ⟨rfl, _, rfl⟩ := h'
    have hlt := (Array.getElem?_eq_some_iff.1 hg).1
    refine ⟨Or.inr ⟨g, 0, rfl, hlt, fun i hi => ?_⟩, Or.inr ⟨g, rfl, hb, hlt, fun j hj => ?_⟩⟩
    · have := World.ownsRow.cells h (g := g) rfl i _ (bcells_get V n i hi)
      rw [Go.WideShapes.add_plain] at this
      exact this
    · have := World.ownsRow.cells h (g := g) rfl j _ (bcells_get V n j hj)
      rw [Go.WideShapes.add_plain, Nat.zero_add] at this
      exact ⟨⟨_, this⟩, by simp [World.frozen?, hg]⟩
theorem infoBool3 : (Try.prog.info? 4).map (fun i => (i.zero, i.size, i.bytes)) = some (some (.bool false), 1, 1) := by kernel_rfl
theorem bool_one (w : World) (base : Nat) (v : Value) (n : Nat) (V : Nat → Bool) (hown : w.ownsRow base 4 1 v n (bcells V n)) (h63 : n + 1 ≤ 1000000) (hbase : base ≤ w.heap.size) :
    ∃ a' cap' w', (Builtin.append_ #[34, 34] 34 #[v, .slice (some ⟨w.heap.size, 0, none⟩) 1 1]).run Try.prog (w.alloc (.cells #[.bool (V n)] 4)) = .ok (.slice a' (n + 1 : Nat) cap') w' ∧ w'.ownsRow base 4 1 (.slice a' (n + 1 : Nat) cap') (n + 1) (bcells V (n + 1)) ∧ w.grownBy w' v.ownBlock := by
  obtain ⟨i, hi, hzz⟩ := Option.map_eq_some_iff.1 infoBool3
  simp only [Prod.mk.injEq] at hzz
  obtain ⟨hz, hsz, hby⟩ := hzz
  obtain ⟨g', cap', w', h1, h2, h3, h4⟩ := append_one (P := Try.prog) w base 34 34 4 i (.bool false) 1 Try.underlying34 hi hz hsz hby (by simp [Value.cells]) v n (bcells V n) hown (.bool (V n)) rfl h63 (by omega) hbase
  exact ⟨_, cap', w', h1, by rw [bcells_snoc]; exact h2, h3⟩
set_option maxHeartbeats 2000000 in
theorem l5Vals_any (N : Nat) (a0 : Option Addr) (n0 cap0 : Nat) (p : Option Addr) (np cp : Nat) (P : Nat → Int) (w : World) (hd : IntsAt w p np P) (hnp : np ≤ 1048576) (hm : MarkP np P N) (hN : N ≤ 700) :
    Calls Try.prog 31 #[.agg #[.int .i64 N, .slice a0 n0 cap0], .slice p np cp] w fun e w' => e = .returned (.slice (some ⟨w.heap.size + 1, 0, none⟩) (N + 1 : Nat) (N + 1 : Nat)) ∧ Ints w' (w.heap.size + 1) 0 (N + 1) (sgI P np) ∧ w.heap.size + 1 < w'.heap.size ∧ Below w.heap.size w w' := by
  have hmk := run_make_wide (P := Try.prog) 22 3 _ 1 8 Try.underlying22 infoInt .i64 .i64 (N + 1) (by omega) (by omega)
  simp only [Nat.mul_one, Int.natCast_add, Int.natCast_one] at hmk
  have HD := hide hd
  have HMk := hide hm
  clear hd hm
  go_enter Try.func31, Try.ntmps31
  go_wp2
  go_loopw [6] (fun i wr => ∃ k : Nat, k ≤ np ∧ i = .int .i64 k ∧ Ints wr (w.heap.size + 1) 0 (N + 1) (sgI P k) ∧ Made wr (w.heap.size + 1) (N + 1) ∧ Below w.heap.size w wr) (fun i _ => np - (intOf i).toNat)
  case atStart =>
    refine ⟨0, by omega, rfl, fun i hi => ?_, ?_, (by repeat (first | exact Below.refl _ _ | assumption | refine below_drewN ?_ _ | refine Below.drew ?_ | refine Below.alloc ?_ (by first | exact Nat.le_refl _ | exact Below.size (by assumption) | (simp; done) | (simp; omega)) _ | refine Below.setCell ?_ (by first | exact Nat.le_refl _ | exact Below.size (by assumption) | (simp; done) | (simp; omega)) _ | refine Below.trans ?_ (by assumption)))⟩
    · rw [Nat.zero_add]
      have := made_cell (w.alloc (.cells #[.int .i64 N, .slice a0 n0 cap0] 36)) (.int .i64 0) (N + 1) i 3 hi
      simpa [World.size_alloc, sgI] using this
    · have := Made.new (w.alloc (.cells #[.int .i64 N, .slice a0 n0 cap0] 36)) #[.int .i64 0] (N + 1) 3
      simpa [World.size_alloc] using this
  case round =>
    obtain ⟨k, hk, rfl, hbl, hmd, hbel⟩ := hrel
    have HB := hide hbl
    have HM := hide hmd
    clear hbl hmd
    have lt0 := (unhide HM).1
    by_cases hlt : k < np
    · obtain ⟨b, off, rfl, hb, hdp⟩ := (unhide HD).ok hlt
      have d0 := (hbel.cell (p := ⟨b, off + k, none⟩) hb).trans (hdp k hlt)
      clear hdp
      obtain ⟨⟨m1, m2, m3⟩, _⟩ := unhide HMk k hlt
      by_cases hpos : 0 < P k
      · obtain ⟨m, hm⟩ := Int.eq_ofNat_of_zero_le (Int.le_of_lt hpos)
        have hmN : m < N + 1 := by omega
        have hmI : (m : Int) < (N : Int) + 1 := by omega
        have s0 := unhide HB m hmN
        rw [Nat.zero_add] at s0
        have f0 := ((unhide HM).2 m hmN).2
        have HS := hide (sgI_put (w := _) (unhide HB) (by rw [absI_pos (by omega)]; exact hm) (v := 1) (by rw [if_neg (by omega)]) s0)
        rw [hm] at d0 hpos
        clear hm
        go_wp2
        go_roundw
        case rel => exact ⟨k + 1, by omega, by go_num, unhide HS, (unhide HM).set _ _, hbel.setCell (by dsimp only; omega) _⟩
        case measure => simp [intOf]; omega
      · obtain ⟨m, hm⟩ := Int.eq_ofNat_of_zero_le (show 0 ≤ -P k by omega)
        have hP : P k = -(m : Int) := by omega
        have hmN : m < N + 1 := by omega
        have hmI : (m : Int) < (N : Int) + 1 := by omega
        have s0 := unhide HB m hmN
        rw [Nat.zero_add] at s0
        have f0 := ((unhide HM).2 m hmN).2
        have HS := hide (sgI_put (w := _) (unhide HB) (by rw [absI_neg (by omega)]; exact hm) (v := -1) (by rw [if_pos (by omega)]) s0)
        rw [hP] at d0 hpos
        clear hm hP
        go_wp2
        go_roundw
        case rel => exact ⟨k + 1, by omega, by go_num, unhide HS, (unhide HM).set _ _, hbel.setCell (by dsimp only; omega) _⟩
        case measure => simp [intOf]; omega
    · have e : k = np := by omega
      subst e
      go_wp2
      go_ret
      exact ⟨rfl, unhide HB, lt0, hbel⟩
end Go.Proofs.Ytndebifmimbeaab
