/- Lists of clauses of one's own: held equal, marked, and held against the marks. -/
import Derived.Test.YtoglplpchjcpoaaCnM
import Derived.Test.YtoglplpchjcpoaaCnfA
import Derived.Test.YtoglplpchjcpoaaRngK
namespace Go.Proofs.Ytoglplpchjcpoaa
open Go.ChangeShapes Go.WideShapes Go.ChangeAt Go.RowKit Go.Joins
set_option linter.unusedVariables false
set_option linter.unusedSimpArgs false

theorem Cr.row {w : World} {base g n cap : Nat} {Q : List Qc} (h : Cr w base g n cap Q) {i : Nat} (hi : i < n) : w.cell? ⟨g, i, none⟩ = some (qval (qat Q i)) := by
  have hl := h.len
  have hc := h.o.cells (g := g) rfl i (qval (qat Q i)) (by simp [qcells, qat, List.getD, show i < Q.length by omega])
  rwa [Go.WideShapes.add_plain, Nat.zero_add] at hc
/-- The same, where nothing more is to be put behind it. -/
structure Cw (w : World) (base g n : Nat) (Q : List Qc) : Prop where
  b : base ≤ g ∧ g < w.heap.size
  r : ∀ i, i < n → w.cell? ⟨g, i, none⟩ = some (qval (qat Q i))
  c : ∀ i, i < n → QOk w base (qat Q i) ∧ (qat Q i).1 ≠ g
  d : ∀ i j, i < j → j < n → (qat Q i).1 ≠ (qat Q j).1
theorem Cr.cw {w : World} {base g n cap : Nat} {Q : List Qc} (h : Cr w base g n cap Q) : Cw w base g n Q := ⟨⟨own_base h.o, (own_cap h.o).2⟩, fun i hi => h.row hi, h.c, h.d⟩
theorem Cw.row {w : World} {base g n : Nat} {Q : List Qc} (h : Cw w base g n Q) {i : Nat} (hi : i < n) : w.cell? ⟨g, i, none⟩ = some (qval (qat Q i)) := h.r i hi
theorem Cw.later {w w' : World} {base g n : Nat} {Q : List Qc} (h : Cw w base g n Q) (hb : Below w.heap.size w w') : Cw w' base g n Q :=
  ⟨⟨h.b.1, Nat.lt_of_lt_of_le h.b.2 hb.size⟩, fun i hi => cell_later hb (h.r i hi), fun i hi => ⟨(h.c i hi).1.later hb, (h.c i hi).2⟩, h.d⟩
theorem Cw.rng {w w' : World} {base g n lo hi : Nat} {Q : List Qc} (h : Cw w base g n Q) (hr : Rng lo hi w w') (hg : g < lo ∨ hi ≤ g) (hn : ∀ i, i < n → (qat Q i).1 < lo ∨ hi ≤ (qat Q i).1) : Cw w' base g n Q :=
  ⟨⟨h.b.1, Nat.lt_of_lt_of_le h.b.2 hr.size⟩, fun i hi => hr.cell (h.r i hi) hg, fun i hi => ⟨⟨(h.c i hi).1.1, (h.c i hi).1.2.1.rng hr (hn i hi), fun j hj => hr.cell ((h.c i hi).1.2.2 j hj) (hn i hi)⟩, (h.c i hi).2⟩, h.d⟩
theorem qat_snd {Q : List Qc} {C : List (List Int)} (h : Q.map Prod.snd = C) (i : Nat) : (qat Q i).2 = C.getD i [] := by
  subst h
  unfold qat
  rw [List.getD_eq_getElem?_getD, List.getD_eq_getElem?_getD, List.getElem?_map]
  cases Q[i]? <;> rfl
theorem Cw.rws {w : World} {base g n : Nat} {Q : List Qc} {C : List (List Int)} (h : Cw w base g n Q) (hQ : Q.map Prod.snd = C) : Rws w g 0 n (fun i => some ⟨(qat Q i).1, 0, none⟩) (fun i => (C.getD i []).length) (fun i => (C.getD i []).length) (fun i => at0 (C.getD i [])) := fun i hi => by
  have h1 := h.row hi
  have h2 := (h.c i hi).1.2
  simp only [← qat_snd hQ i, Nat.zero_add]
  exact ⟨h1, Or.inr ⟨_, _, rfl, h2.1.1, h2.2⟩⟩
/-- How many numbers the first clauses have. -/
def sumL (Q : List Qc) : Nat → Nat
  | 0 => 0
  | i + 1 => sumL Q i + (qat Q i).2.length
theorem sumL_le {Q : List Qc} {n : Nat} (h : ∀ i, i < n → (qat Q i).2.length ≤ 3) : ∀ i, i ≤ n → sumL Q i ≤ 3 * i
  | 0, _ => by simp [sumL]
  | i + 1, hi => by
    have h1 := sumL_le h i (by omega)
    have h2 := h i (by omega)
    simp only [sumL]
    omega
/-- The list holds what its marks say. -/
def HeldQ (w : World) (g n : Nat) (Q : List Qc) : Prop := ∀ i, i < n → w.cell? ⟨g, i, none⟩ = some (qval (qat Q i)) ∧ (qat Q i).1 < w.heap.size ∧ Ints w (qat Q i).1 0 (qat Q i).2.length (mkI (1 + (sumL Q i : Int)))
theorem HeldQ.later {w w' : World} {g n : Nat} {Q : List Qc} (h : HeldQ w g n Q) (hb : Below w.heap.size w w') : HeldQ w' g n Q := fun i hi => ⟨cell_later hb (h i hi).1, Nat.lt_of_lt_of_le (h i hi).2.1 hb.size, (h i hi).2.2.later hb⟩
set_option maxHeartbeats 1000000 in
theorem markSS_any (base hi g n cap : Nat) (Q : List Qc) (w : World) (h : Cw w base g n Q) (hn : n ≤ 2401) (h3 : ∀ i, i < n → (qat Q i).2.length ≤ 3) (hh : ∀ i, i < n → (qat Q i).1 < hi) :
    Calls Try.prog 24 #[.slice (some ⟨g, 0, none⟩) n cap, .int .i64 1] w fun e w' => e = .returned (.int .i64 (1 + sumL Q n)) ∧ HeldQ w' g n Q ∧ Rng base hi w w' := by
  have HC := hide h
  have H3 := hide h3
  have HH := hide hh
  have HS := hide (sumL_le h3)
  clear h h3 hh
  go_enter Try.func24, Try.ntmps24
  go_wp2
  go_loopw [5, 1] (fun i s wr => ∃ (k : Nat), k ≤ n ∧ i = .int .i64 k ∧ s = .int .i64 (1 + (sumL Q k : Int)) ∧ HeldQ wr g k Q ∧ (∀ i, i < n → wr.cell? ⟨g, i, none⟩ = some (qval (qat Q i)) ∧ (k ≤ i → Made wr (qat Q i).1 (qat Q i).2.length)) ∧ Rng base hi w wr) (fun i _ _ => n - (intOf i).toNat)
  case atStart => exact ⟨0, by omega, rfl, rfl, fun i hi => by omega, fun i hi => ⟨(unhide HC).row hi, fun _ => ((unhide HC).c i hi).1.2.1⟩, Rng.refl _ _ _⟩
  case round =>
    obtain ⟨k, hk, rfl, rfl, hq, hm, hr⟩ := hrel
    have HQ := hide hq
    have HM := hide hm
    have HR := hide hr
    clear hq hm hr
    have hsk := unhide HS k hk
    by_cases hlt : k < n
    · have d0 := (unhide HM k hlt).1
      have m0 := (unhide HM k hlt).2 (Nat.le_refl _)
      have l3 := unhide H3 k hlt
      have lb := ((unhide HC).c k hlt).1.1
      have HN : Hid (sumL Q (k + 1) = sumL Q k + (qat Q k).2.length) := rfl
      obtain ⟨B, hB⟩ : ∃ B, B = (qat Q k).1 := ⟨_, rfl⟩
      obtain ⟨c, hc⟩ : ∃ c, c = (qat Q k).2.length := ⟨_, rfl⟩
      unfold qval at d0
      rw [← hB, ← hc] at d0 m0
      rw [← hc] at l3 HN
      rw [← hB] at lb
      have HMD := hide m0
      have HB := hide hB
      have HCC := hide hc
      clear m0 hB hc
      go_wp2_with fail
      refine (markIntS_from (1 + (sumL Q k : Int)) (some ⟨B, 0, none⟩) c c base _ (by omega) (Or.inr ⟨B, rfl, lb, unhide HMD⟩) (by omega)).mono ?_
      rintro e w1 ⟨rfl, ia, oa, mv, rg⟩
      have mvB := mv B rfl
      have hBk := unhide HB
      have hck := unhide HCC
      have hBh : B < hi := by rw [hBk]; exact unhide HH k hlt
      have HR1 := hide ((unhide HR).trans (rg hi (Or.inr ⟨B, 0, rfl, hBh⟩)))
      have gB : g ≠ B := by rw [hBk]; exact ((unhide HC).c k hlt).2.symm
      have iB : Ints w1 B 0 c (mkI (1 + (sumL Q k : Int))) := by
        rcases ia with h0 | ⟨b, off, e, _, h⟩
        · subst h0; exact fun i hi => by omega
        · cases e; exact h
      have HQ1 : Hid (HeldQ w1 g (k + 1) Q) := fun i hi => by
        by_cases e : i = k
        · subst e
          refine ⟨mvB.cell (unhide HM i hlt).1 gB, ?_, ?_⟩
          · rw [← hBk]; exact Nat.lt_of_lt_of_le (unhide HMD).1 mvB.size
          · rw [← hBk, ← hck]; exact iB
        · have ne : (qat Q i).1 ≠ B := by rw [hBk]; exact (unhide HC).d i k (by omega) hlt
          have q := unhide HQ i (by omega)
          exact ⟨mvB.cell q.1 gB, Nat.lt_of_lt_of_le q.2.1 mvB.size, fun j hj => mvB.cell (q.2.2 j hj) ne⟩
      have HM1 : Hid (∀ i, i < n → w1.cell? ⟨g, i, none⟩ = some (qval (qat Q i)) ∧ (k + 1 ≤ i → Made w1 (qat Q i).1 (qat Q i).2.length)) := fun i hi => ⟨mvB.cell (unhide HM i hi).1 gB, fun h => ((unhide HM i hi).2 (by omega)).mov mvB (by rw [hBk]; exact ((unhide HC).d k i (by omega) hi).symm)⟩
      clear ia oa mv rg mvB hBk hck hBh gB iB
      go_wp2
      go_roundw
      case rel => exact ⟨k + 1, by omega, by go_num, by rw [unhide HN]; go_num, unhide HQ1, unhide HM1, unhide HR1⟩
      case measure => simp [intOf]; omega
    · have ek : k = n := by omega
      subst ek
      go_wp2
      go_ret
      exact ⟨rfl, unhide HQ, unhide HR⟩
set_option maxHeartbeats 1000000 in
theorem markCr_any (m : Int) (base hi g n cap : Nat) (Q : List Qc) (w : World) (h : Cw w base g n Q) (hn : n ≤ 2401) (h3 : ∀ i, i < n → (qat Q i).2.length ≤ 3) (hh : ∀ i, i < n → (qat Q i).1 < hi) :
    Calls Try.prog 11 #[.agg #[.int .i64 m, .slice (some ⟨g, 0, none⟩) n cap], .int .i64 1] w fun e w' => e = .returned (.int .i64 (1 + sumL Q n)) ∧ HeldQ w' g n Q ∧ Rng base hi w w' := by
  have HC := hide h
  have HT := hide hh
  clear h hh
  obtain ⟨wz, hwz⟩ : ∃ wz, wz = w.alloc (.cells #[.int .i64 m, .slice (some ⟨g, 0, none⟩) n cap] 28) := ⟨_, rfl⟩
  have BZ : Below w.heap.size w wz := by rw [hwz]; exact (Below.refl _ _).alloc (Nat.le_refl _) _
  have z1 : wz.cell? ⟨w.heap.size, 1, none⟩ = some (.slice (some ⟨g, 0, none⟩) n cap) := by rw [hwz]; simp [go_sem]
  have HZ := hide hwz
  clear hwz
  go_enter Try.func11, Try.ntmps11
  go_wp2_with fail
  rw [← unhide HZ]
  refine (markSS_any base hi g n cap Q wz ((unhide HC).later BZ) hn h3 (unhide HT)).mono ?_
  rintro e wq ⟨rfl, hq, rq⟩
  have HQ := hide hq
  have HR := hide ((Rng.of (lo := base) (hi := hi) BZ).trans rq)
  clear hq rq
  go_wp2
  go_ret
  exact ⟨rfl, unhide HQ, unhide HR⟩
set_option maxHeartbeats 1000000 in
theorem heldSS_any (g n cap : Nat) (Q : List Qc) (w : World) (h : HeldQ w g n Q) (hn : n ≤ 2401) (h3 : ∀ i, i < n → (qat Q i).2.length ≤ 3) :
    Calls Try.prog 25 #[.slice (some ⟨g, 0, none⟩) n cap, .int .i64 1] w fun e w' => e = .returned (.int .i64 (1 + sumL Q n)) ∧ Below w.heap.size w w' := by
  have HC := hide h
  have H3 := hide h3
  have HS := hide (sumL_le h3)
  clear h h3
  go_enter Try.func25, Try.ntmps25
  go_wp2
  go_loopw [5, 1] (fun i s wr => ∃ (k : Nat), k ≤ n ∧ i = .int .i64 k ∧ s = .int .i64 (1 + (sumL Q k : Int)) ∧ Below w.heap.size w wr) (fun i _ _ => n - (intOf i).toNat)
  case atStart => exact ⟨0, by omega, rfl, rfl, Below.refl _ _⟩
  case round =>
    obtain ⟨k, hk, rfl, rfl, be⟩ := hrel
    have hsk := unhide HS k hk
    by_cases hlt : k < n
    · obtain ⟨d0, lb, ib⟩ := ((unhide HC).later be) k hlt
      have l3 := unhide H3 k hlt
      have HN : Hid (sumL Q (k + 1) = sumL Q k + (qat Q k).2.length) := rfl
      unfold qval at d0
      generalize (qat Q k).1 = B at *
      generalize (qat Q k).2.length = c at *
      have HI := hide ib
      clear ib
      have hge : decide (1 + (sumL Q k : Int) + (c : Int) < 0) = false := by simp; omega
      go_wp2_with fail
      refine (heldIntS_from (1 + (sumL Q k : Int)) (some ⟨B, 0, none⟩) c c _ (by omega) (Or.inr ⟨B, 0, rfl, lb, unhide HI⟩) (by omega)).mono ?_
      rintro e w1 ⟨rfl, b1⟩
      go_wp2
      go_roundw
      case rel => exact ⟨k + 1, by omega, by go_num, by rw [unhide HN]; go_num, be.trans (b1.mono be.size)⟩
      case measure => simp [intOf]; omega
    · have ek : k = n := by omega
      subst ek
      go_wp2
      go_ret
      exact ⟨rfl, be⟩
set_option maxHeartbeats 1000000 in
theorem heldCr_any (m : Int) (g n cap : Nat) (Q : List Qc) (w : World) (h : HeldQ w g n Q) (hn : n ≤ 2401) (h3 : ∀ i, i < n → (qat Q i).2.length ≤ 3) :
    Calls Try.prog 12 #[.agg #[.int .i64 m, .slice (some ⟨g, 0, none⟩) n cap], .int .i64 1] w fun e w' => e = .returned (.int .i64 (1 + sumL Q n)) ∧ Below w.heap.size w w' := by
  have HC := hide h
  have hs := sumL_le h3 n (Nat.le_refl _)
  clear h
  obtain ⟨wz, hwz⟩ : ∃ wz, wz = w.alloc (.cells #[.int .i64 m, .slice (some ⟨g, 0, none⟩) n cap] 28) := ⟨_, rfl⟩
  have BZ : Below w.heap.size w wz := by rw [hwz]; exact (Below.refl _ _).alloc (Nat.le_refl _) _
  have z1 : wz.cell? ⟨w.heap.size, 1, none⟩ = some (.slice (some ⟨g, 0, none⟩) n cap) := by rw [hwz]; simp [go_sem]
  have HZ := hide hwz
  have hge : decide (1 + (sumL Q n : Int) < 0) = false := by simp; omega
  clear hwz
  go_enter Try.func12, Try.ntmps12
  go_wp2_with fail
  rw [← unhide HZ]
  refine (heldSS_any g n cap Q wz ((unhide HC).later BZ) hn h3).mono ?_
  rintro e wq ⟨rfl, bq⟩
  go_wp2
  go_ret
  exact ⟨rfl, BZ.trans (bq.mono BZ.size)⟩
/-- A list of clauses of one's own, or none at all. -/
def CwO (w : World) (base : Nat) (a : Option Addr) (n cap : Nat) (Q : List Qc) : Prop := (n = 0 ∧ a = none ∧ cap = 0 ∧ Q = []) ∨ (0 < n ∧ Q.length = n ∧ ∃ g, a = some ⟨g, 0, none⟩ ∧ Cw w base g n Q)
theorem CwO.later {w w' : World} {base n cap : Nat} {a : Option Addr} {Q : List Qc} (h : CwO w base a n cap Q) (hb : Below w.heap.size w w') : CwO w' base a n cap Q := by
  rcases h with h | ⟨h1, h2, g, h3, h4⟩
  · exact Or.inl h
  · exact Or.inr ⟨h1, h2, g, h3, h4.later hb⟩
theorem CwO.drew {w : World} {base n cap : Nat} {a : Option Addr} {Q : List Qc} (h : CwO w base a n cap Q) : CwO w.drew base a n cap Q := h.later (Below.refl _ _).drew
theorem CwO.high {w w' : World} {base n cap lo hi : Nat} {a : Option Addr} {Q : List Qc} (h : CwO w base a n cap Q) (hr : Rng lo hi w w') (hh : hi ≤ base) : CwO w' base a n cap Q := by
  rcases h with h | ⟨h1, h2, g, h3, h4⟩
  · exact Or.inl h
  · exact Or.inr ⟨h1, h2, g, h3, h4.rng hr (Or.inr (Nat.le_trans hh h4.b.1)) (fun i hi => Or.inr (Nat.le_trans hh (h4.c i hi).1.1))⟩
/-- All of it lies below. -/
def UpO (hi : Nat) (a : Option Addr) (n : Nat) (Q : List Qc) : Prop := ∀ g, a = some ⟨g, 0, none⟩ → g < hi ∧ ∀ i, i < n → (qat Q i).1 < hi
theorem CwO.up {w : World} {base n cap : Nat} {a : Option Addr} {Q : List Qc} (h : CwO w base a n cap Q) : UpO w.heap.size a n Q := by
  intro g hg
  rcases h with ⟨_, h, _⟩ | ⟨h1, h2, g', h3, h4⟩
  · rw [h] at hg; cases hg
  · rw [h3] at hg; cases hg; exact ⟨h4.b.2, fun i hi => (h4.c i hi).1.2.1.1⟩
theorem UpO.mono {hi hi' n : Nat} {a : Option Addr} {Q : List Qc} (h : UpO hi a n Q) (k : hi ≤ hi') : UpO hi' a n Q := fun g hg => ⟨Nat.lt_of_lt_of_le (h g hg).1 k, fun i h1 => Nat.lt_of_lt_of_le ((h g hg).2 i h1) k⟩
theorem CwO.low {w w' : World} {base n cap lo hi : Nat} {a : Option Addr} {Q : List Qc} (h : CwO w base a n cap Q) (hu : UpO lo a n Q) (hr : Rng lo hi w w') : CwO w' base a n cap Q := by
  rcases h with h | ⟨h1, h2, g, h3, h4⟩
  · exact Or.inl h
  · exact Or.inr ⟨h1, h2, g, h3, h4.rng hr (Or.inl (hu g h3).1) (fun i hi => Or.inl ((hu g h3).2 i hi))⟩
def HeldO (w : World) (a : Option Addr) (n : Nat) (Q : List Qc) : Prop := (n = 0 ∧ a = none) ∨ ∃ g, a = some ⟨g, 0, none⟩ ∧ HeldQ w g n Q
theorem HeldO.later {w w' : World} {a : Option Addr} {n : Nat} {Q : List Qc} (h : HeldO w a n Q) (hb : Below w.heap.size w w') : HeldO w' a n Q := by
  rcases h with h | ⟨g, h1, h2⟩
  · exact Or.inl h
  · exact Or.inr ⟨g, h1, h2.later hb⟩
theorem HeldO.drew {w : World} {a : Option Addr} {n : Nat} {Q : List Qc} (h : HeldO w a n Q) : HeldO w.drew a n Q := h.later (Below.refl _ _).drew
/-- The lists are short, and few. -/
def Few (C : List (List Int)) : Prop := C.length ≤ 2401 ∧ ∀ c, c ∈ C → c.length ≤ 3
theorem Few.at {Q : List Qc} {C : List (List Int)} (h : Few C) (hQ : Q.map Prod.snd = C) : Q.length ≤ 2401 ∧ ∀ i, i < Q.length → (qat Q i).2.length ≤ 3 := by
  have hl : Q.length = C.length := by rw [← hQ]; simp
  refine ⟨by rw [hl]; exact h.1, fun i hi => ?_⟩
  apply h.2
  rw [← hQ]
  exact List.mem_map_of_mem (qat_mem hi)
set_option maxHeartbeats 400000 in
theorem eqSS_nil (w : World) : Calls Try.prog 21 #[.slice none 0 0, .slice none 0 0] w fun e w' => e = .returned (.bool true) ∧ Below w.heap.size w w' := by
  go_enter Try.func21, Try.ntmps21
  go_wp2
  go_loopw [5] (fun i wr => i = .int .i64 0 ∧ wr = w) (fun _ _ => 0)
  case atStart => exact ⟨rfl, rfl⟩
  case round =>
    obtain ⟨rfl, rfl⟩ := hrel
    go_wp2
    go_ret
    exact ⟨rfl, Below.refl _ _⟩
set_option maxHeartbeats 400000 in
theorem markSS_nil (w : World) : Calls Try.prog 24 #[.slice none 0 0, .int .i64 1] w fun e w' => e = .returned (.int .i64 1) ∧ Below w.heap.size w w' := by
  go_enter Try.func24, Try.ntmps24
  go_wp2
  go_loopw [5, 1] (fun i s wr => i = .int .i64 0 ∧ s = .int .i64 1 ∧ wr = w) (fun _ _ _ => 0)
  case atStart => exact ⟨rfl, rfl, rfl⟩
  case round =>
    obtain ⟨rfl, rfl, rfl⟩ := hrel
    go_wp2
    go_ret
    exact ⟨rfl, Below.refl _ _⟩
set_option maxHeartbeats 400000 in
theorem heldSS_nil (w : World) : Calls Try.prog 25 #[.slice none 0 0, .int .i64 1] w fun e w' => e = .returned (.int .i64 1) ∧ Below w.heap.size w w' := by
  go_enter Try.func25, Try.ntmps25
  go_wp2
  go_loopw [5, 1] (fun i s wr => i = .int .i64 0 ∧ s = .int .i64 1 ∧ wr = w) (fun _ _ _ => 0)
  case atStart => exact ⟨rfl, rfl, rfl⟩
  case round =>
    obtain ⟨rfl, rfl, rfl⟩ := hrel
    go_wp2
    go_ret
    exact ⟨rfl, Below.refl _ _⟩
set_option maxHeartbeats 1000000 in
theorem markO_any (m : Int) (base hi : Nat) (a : Option Addr) (n cap : Nat) (Q : List Qc) (C : List (List Int)) (w : World) (h : CwO w base a n cap Q) (hu : UpO hi a n Q) (hC : Q.map Prod.snd = C) (hf : Few C) :
    Calls Try.prog 11 #[.agg #[.int .i64 m, .slice a n cap], .int .i64 1] w fun e w' => e = .returned (.int .i64 (1 + sumL Q n)) ∧ HeldO w' a n Q ∧ Rng base hi w w' := by
  have f1 := hf.at hC
  rcases h with ⟨h1, h2, h3, h4⟩ | ⟨h1, h2, g, h3, h4⟩
  · subst h1 h2 h3
    go_enter Try.func11, Try.ntmps11
    go_wp2_with fail
    refine (markSS_nil _).mono ?_
    rintro e wq ⟨rfl, bq⟩
    go_wp2
    go_ret
    exact ⟨rfl, Or.inl ⟨rfl, rfl⟩, Rng.of ((alloc_up w _).trans (bq.mono (alloc_up w _).size))⟩
  · subst h3
    refine (markCr_any m base hi g n cap Q w h4 (by have := f1.1; omega) (fun i hi => f1.2 i (by omega)) (hu g rfl).2).mono ?_
    rintro e w' ⟨h1, h2, h3⟩
    exact ⟨h1, Or.inr ⟨g, rfl, h2⟩, h3⟩
set_option maxHeartbeats 1000000 in
theorem heldO_any (m : Int) (a : Option Addr) (n cap : Nat) (Q : List Qc) (C : List (List Int)) (w : World) (h : HeldO w a n Q) (hn : Q.length = n) (hcap : a = none → cap = 0) (hC : Q.map Prod.snd = C) (hf : Few C) :
    Calls Try.prog 12 #[.agg #[.int .i64 m, .slice a n cap], .int .i64 1] w fun e w' => e = .returned (.int .i64 (1 + sumL Q n)) ∧ Below w.heap.size w w' := by
  have f1 := hf.at hC
  rcases h with ⟨h1, h2⟩ | ⟨g, h3, h4⟩
  · have h3 := hcap h2
    subst h1 h2 h3
    go_enter Try.func12, Try.ntmps12
    go_wp2_with fail
    refine (heldSS_nil _).mono ?_
    rintro e wq ⟨rfl, bq⟩
    go_wp2
    go_ret
    exact ⟨rfl, (alloc_up w _).trans (bq.mono (alloc_up w _).size)⟩
  · subst h3
    exact heldCr_any m g n cap Q w h4 (by have := f1.1; omega) (fun i hi => f1.2 i (by omega))
set_option maxHeartbeats 1000000 in
theorem eqCnfO_any (m : Int) (base base' : Nat) (a a' : Option Addr) (n n' cap cap' : Nat) (Q Q' : List Qc) (C : List (List Int)) (w : World) (h : CwO w base a n cap Q) (h' : CwO w base' a' n' cap' Q') (hC : Q.map Prod.snd = C) (hC' : Q'.map Prod.snd = C) (hf : Few C) :
    Calls Try.prog 8 #[.agg #[.int .i64 m, .slice a n cap], .agg #[.int .i64 m, .slice a' n' cap']] w fun e w' => e = .returned (.bool true) ∧ Below w.heap.size w w' := by
  have f1 := hf.at hC
  rcases h with ⟨h1, h2, h3, h4⟩ | ⟨h1, h2, g, h3, h4⟩
  · rcases h' with ⟨k1, k2, k3, k4⟩ | ⟨k1, k2, g', k3, k4⟩
    · subst h1 h2 h3 k1 k2 k3
      have kb : (m != m) = false := by simp
      go_enter Try.func8, Try.ntmps8
      go_wp2_with fail
      refine (eqSS_nil _).mono ?_
      rintro e wq ⟨rfl, bq⟩
      go_wp2
      go_ret
      exact ⟨rfl, ((alloc_bel (alloc_up w _) _)).trans (bq.mono (alloc_bel (alloc_up w _) _).size)⟩
    · have e1 : Q'.length = C.length := by rw [← hC']; simp
      have e2 : C = [] := by rw [← hC, h4]; rfl
      rw [e2] at e1
      simp at e1
      rw [e1] at k2
      simp at k2
      omega
  · rcases h' with ⟨k1, k2, k3, k4⟩ | ⟨k1, k2, g', k3, k4⟩
    · have e1 : Q.length = C.length := by rw [← hC]; simp
      have e2 : C = [] := by rw [← hC', k4]; rfl
      rw [e2] at e1
      simp at e1
      rw [e1] at h2
      simp at h2
      omega
    · have e1 : n = n' := by rw [← h2, ← k2]; have := congrArg List.length (hC.trans hC'.symm); simpa using this
      subst e1 h3 k3
      have e2 : ∀ i, i < n → (C.getD i []).length ≤ 1048576 := fun i hi => by rw [← qat_snd hC i]; have := f1.2 i (by omega); omega
      exact eqCnf_same m g g' n cap cap' _ _ _ _ _ _ w h4.b.2 k4.b.2 (h4.rws hC) (k4.rws hC') (by have := f1.1; omega) e2
end Go.Proofs.Ytoglplpchjcpoaa
