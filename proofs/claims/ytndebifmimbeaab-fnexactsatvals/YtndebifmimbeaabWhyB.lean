/- Whether all reasons are right: the model's. -/
import Derived.Test.YtndebifmimbeaabWhyA
namespace Go.Proofs.Ytndebifmimbeaab
open Go.ChangeShapes Go.WideShapes Go.ChangeAt Go.RowKit Go.Joins
set_option linter.unusedVariables false

theorem Box.set {w : World} {b : Nat} {m : Int} {a : Option Addr} {n cap : Nat} (h : Box w b m a n cap) (p : Addr) (v : Value) (hp : p.block ≠ b) : Box (w.setCell p v) b m a n cap := by
  have hne : ∀ i, (⟨b, i, none⟩ : Addr) ≠ p := fun i e => hp (by rw [← e])
  exact ⟨(World.cell?_setCell_other _ _ _ _ (fun e => hne _ (by first | exact e | exact e.symm))).trans h.1, (World.cell?_setCell_other _ _ _ _ (fun e => hne _ (by first | exact e | exact e.symm))).trans h.2⟩
theorem SBox.set {w : World} {b : Nat} {p : Option Addr} {np cp : Nat} {q : Option Addr} {nq cq : Nat} {a : Option Addr} {n cap : Nat} {code : Int} (h : SBox w b p np cp q nq cq a n cap code) (x : Addr) (v : Value) (hp : x.block ≠ b) : SBox (w.setCell x v) b p np cp q nq cq a n cap code := by
  have hne : ∀ i, (⟨b, i, none⟩ : Addr) ≠ x := fun i e => hp (by rw [← e])
  exact ⟨(World.cell?_setCell_other _ _ _ _ (fun e => hne _ (by first | exact e | exact e.symm))).trans h.1, (World.cell?_setCell_other _ _ _ _ (fun e => hne _ (by first | exact e | exact e.symm))).trans h.2.1, (World.cell?_setCell_other _ _ _ _ (fun e => hne _ (by first | exact e | exact e.symm))).trans h.2.2.1, (World.cell?_setCell_other _ _ _ _ (fun e => hne _ (by first | exact e | exact e.symm))).trans h.2.2.2⟩
theorem sgI_put {w : World} {B N k m : Nat} {P : Nat → Int} {u0 : Value} {v : Int} (h : Ints w B 0 (N + 1) (sgI P k)) (hm : absI (P k) = (m : Int)) (hv : v = if P k < 0 then -1 else 1) (q0 : w.cell? ⟨B, m, none⟩ = some u0) :
    Ints (w.setCell ⟨B, m, none⟩ (.int .i64 v)) B 0 (N + 1) (sgI P (k + 1)) := by
  intro i hi
  by_cases e : i = m
  · subst e
    rw [Nat.zero_add]
    have : sgI P (k + 1) i = v := by rw [sgI, hm, if_pos rfl, hv]
    rw [this]
    exact World.cell?_setCell_same _ _ _ q0
  · have : sgI P (k + 1) i = sgI P k i := by
      rw [sgI, hm, if_neg (by omega)]
    rw [this, World.cell?_setCell_other _ _ _ _ (by simp <;> omega)]
    exact h i hi
theorem sgI_put2 {w : World} {B N k m : Nat} {P : Nat → Int} {u0 : Value} (h : Ints w B 0 (N + 1) (sgI P k)) (hm : absI (P k) = (m : Int)) (hv : P k < 0) (q0 : w.cell? ⟨B, m, none⟩ = some u0) :
    Ints ((w.setCell ⟨B, m, none⟩ (.int .i64 1)).setCell ⟨B, m, none⟩ (.int .i64 (-1))) B 0 (N + 1) (sgI P (k + 1)) := by
  intro i hi
  by_cases e : i = m
  · subst e
    rw [Nat.zero_add]
    have : sgI P (k + 1) i = -1 := by rw [sgI, hm, if_pos rfl, if_pos hv]
    rw [this]
    exact World.cell?_setCell_same _ _ _ (World.cell?_setCell_same _ _ _ q0)
  · have : sgI P (k + 1) i = sgI P k i := by
      rw [sgI, hm, if_neg (by omega)]
    rw [this, World.cell?_setCell_other _ _ _ _ (by simp <;> omega), World.cell?_setCell_other _ _ _ _ (by simp <;> omega)]
    exact h i hi
theorem jn_rws {w : World} {a a' : Option Addr} {n n' : Nat} {A A' : Nat → Option Addr} {L L' C C' : Nat → Nat} {V V' : Nat → Nat → Int} (hd : RwsAt w a n A L C V) (hd' : RwsAt w a' n' A' L' C' V') {k : Nat} (hk : k < n + n') : IntsAt w (jn n A A' k) (jn n L L' k) (jn n V V' k) := by
  by_cases h : k < n
  · rw [jn_lt h, jn_lt h, jn_lt h]
    obtain ⟨b, off, _, _, hd⟩ := hd.ok h
    exact (hd k h).2
  · rw [jn_ge (by omega), jn_ge (by omega), jn_ge (by omega)]
    obtain ⟨b, off, _, _, hd⟩ := hd'.ok (show k - n < n' by omega)
    exact (hd (k - n) (by omega)).2
theorem jn_cl {n n' N : Nat} {L L' : Nat → Nat} {V V' : Nat → Nat → Int} (hd : LstP n L V N) (hd' : LstP n' L' V' N) {k : Nat} (hk : k < n + n') : ClP (jn n L L' k) (jn n V V' k) N := by
  by_cases h : k < n
  · rw [jn_lt h, jn_lt h]; exact hd k h
  · rw [jn_ge (by omega), jn_ge (by omega)]; exact hd' (k - n) (by omega)
theorem jn_len {n n' : Nat} {L L' : Nat → Nat} {M : Nat} (hd : ∀ i, i < n → L i ≤ M) (hd' : ∀ i, i < n' → L' i ≤ M) {k : Nat} (hk : k < n + n') : jn n L L' k ≤ M := by
  by_cases h : k < n
  · rw [jn_lt h]; exact hd k h
  · rw [jn_ge (by omega)]; exact hd' (k - n) (by omega)
set_option maxHeartbeats 4000000 in
theorem l5Whys_any (N : Nat) (a : Option Addr) (n cap : Nat) (A : Nat → Option Addr) (L C : Nat → Nat) (V : Nat → Nat → Int) (p : Option Addr) (np cp : Nat) (P : Nat → Int) (q : Option Addr) (cq : Nat) (Q : Nat → Int) (a' : Option Addr) (n' cap' : Nat) (A' : Nat → Option Addr) (L' C' : Nat → Nat) (V' : Nat → Nat → Int) (code : Int) (w : World)
    (hd : RwsAt w a n A L C V) (hf : Fits n L V) (hd' : SatIn w p np P q np Q a' n' A' L' C' V') (hf' : SFit np P np Q n' L' V' code) (hl : LstP n L V N) (hl' : LstP n' L' V' N) (hm : MarkP np P N) (hN : N ≤ 700) :
    Calls Try.prog 39 #[.agg #[.int .i64 N, .slice a n cap], .agg #[.slice p np cp, .slice q np cq, .slice a' n' cap', .int .i64 code]] w fun e w' => e = .returned (.bool (whysB np n n' L L' V V' P Q)) ∧ Below w.heap.size w w' := by
  have hmk := run_make_wide (P := Try.prog) 22 3 _ 1 8 Try.underlying22 infoInt .i64 .i64 (N + 1) (by omega) (by omega)
  simp only [Nat.mul_one, Int.natCast_add, Int.natCast_one] at hmk
  have HD := hide hd
  have HE := hide hd'
  have HF := hide hf
  have HG := hide hf'
  have HL := hide hl
  have HL' := hide hl'
  have HMk := hide hm
  have hn := hf.1
  have hn' := hf'.2.2.2.2.1.1
  have hnp := hf'.1
  clear hd hd' hf hf' hl hl' hm
  go_enter Try.func39, Try.ntmps39
  go_wp2
  go_loopw [7] (fun i wr => ∃ k : Nat, k ≤ np ∧ i = .int .i64 k ∧ (∀ j, j < k → WhyP n n' L L' V V' P Q j) ∧ Ints wr (w.heap.size + 2) 0 (N + 1) (sgI P k) ∧ Made wr (w.heap.size + 2) (N + 1) ∧ Box wr w.heap.size N a n cap ∧ SBox wr (w.heap.size + 1) p np cp q np cq a' n' cap' code ∧ Below w.heap.size w wr) (fun i _ => np - (intOf i).toNat)
  case atStart =>
    refine ⟨0, by omega, rfl, fun j hj => by omega, fun i hi => ?_, ?_, ⟨by simp [go_sem], by simp [go_sem]⟩, ⟨by simp [go_sem], by simp [go_sem], by simp [go_sem], by simp [go_sem]⟩, (by repeat (first | exact Below.refl _ _ | assumption | refine below_drewN ?_ _ | refine Below.drew ?_ | refine Below.alloc ?_ (by first | exact Nat.le_refl _ | exact Below.size (by assumption) | (simp; done) | (simp; omega)) _ | refine Below.setCell ?_ (by first | exact Nat.le_refl _ | exact Below.size (by assumption) | (simp; done) | (simp; omega)) _ | refine Below.trans ?_ (by assumption)))⟩
    · rw [Nat.zero_add]
      have := made_cell ((w.alloc (.cells #[.int .i64 N, .slice a n cap] 36)).alloc (.cells #[.slice p np cp, .slice q np cq, .slice a' n' cap', .int .i64 code] 28)) (.int .i64 0) (N + 1) i 3 hi
      simpa [World.size_alloc, sgI] using this
    · have := Made.new ((w.alloc (.cells #[.int .i64 N, .slice a n cap] 36)).alloc (.cells #[.slice p np cp, .slice q np cq, .slice a' n' cap', .int .i64 code] 28)) #[.int .i64 0] (N + 1) 3
      simpa [World.size_alloc] using this
  case round =>
    obtain ⟨k, hk, rfl, hok, hbl, hmd, hbx, hsx, hbel⟩ := hrel
    have HK := hide hok
    have HB := hide hbl
    have HM := hide hmd
    have HX := hide hbx
    have HY := hide hsx
    obtain ⟨x0, x1⟩ := hbx
    obtain ⟨y0, y1, y2, y3⟩ := hsx
    clear hok hbl hmd
    by_cases hlt : k < np
    · obtain ⟨b, off, rfl, hb, hdp⟩ := (unhide HE).1.ok hlt
      obtain ⟨c, off', rfl, hc, hdq⟩ := (unhide HE).2.1.ok hlt
      have d0 := (hbel.cell (p := ⟨b, off + k, none⟩) hb).trans (hdp k hlt)
      have g0 := (hbel.cell (p := ⟨c, off' + k, none⟩) hc).trans (hdq k hlt)
      clear hdp hdq
      have hwq := (unhide HG).2.2.2.1 k hlt
      unfold W64 at hwq
      obtain ⟨⟨m1, m2, m3⟩, _⟩ := unhide HMk k hlt
      by_cases q0 : Q k < -1
      · have HN := hide (whysB_no (np := np) (n := n) (n' := n') (L := L) (L' := L') (V := V) (V' := V') (P := P) (Q := Q) (fun h => by rcases h k hlt with h | h <;> omega))
        go_wp2
        go_quiet (fail)
        go_wp2
        rw [unhide HN]
        go_ret
        exact ⟨rfl, below_drewN hbel _⟩
      · have k0 : decide (Q k < -1) = false := by simp; omega
        by_cases q1 : (n : Int) + n' ≤ Q k
        · have HN := hide (whysB_no (np := np) (n := n) (n' := n') (L := L) (L' := L') (V := V) (V' := V') (P := P) (Q := Q) (fun h => by rcases h k hlt with h | h <;> omega))
          go_wp2
          go_quiet (fail)
          go_wp2
          rw [unhide HN]
          go_ret
          exact ⟨rfl, below_drewN hbel _⟩
        · have k1 : decide ((n : Int) + n' ≤ Q k) = false := by simp; omega
          obtain ⟨a1, a2⟩ := absI_bd _ _ m1 m2
          obtain ⟨m, hm⟩ := Int.eq_ofNat_of_zero_le a1
          have hmN : m < N + 1 := by omega
          have hmI : (m : Int) < (N : Int) + 1 := by omega
          have hb4 : ∀ v, Calls Try.prog 44 #[.int .i64 (P k)] v fun e w' => e = .returned (.int .i64 (m : Int)) ∧ w' = v := fun v => by
            rw [show (m : Int) = absI (P k) from hm.symm]
            exact l4Abs_any _ _ (by omega) (by omega)
          have HB4 := hide hb4
          clear hb4
          have HMN : Hid (P k < 0 → P k = -(m : Int)) := fun h => by rw [absI_neg h] at hm; omega
          have HQ := hide hm
          clear hm
          by_cases q2 : 0 ≤ Q k
          · obtain ⟨r, hr⟩ := Int.eq_ofNat_of_zero_le q2
            have hrn : r < n + n' := by omega
            have HI := hide ((jn_rws ((unhide HD).later hbel) ((unhide HE).later hbel).2.2 hrn))
            have HCl := hide (jn_cl (unhide HL) (unhide HL') hrn)
            have HLen := hide (jn_len (M := 1048576) (fun i hi => ((unhide HF).2 i hi).1) (fun i hi => ((unhide HG).2.2.2.2.1.2 i hi).1) hrn)
            have k2 : decide (0 ≤ Q k) = true := by simp; omega
            rw [hr] at g0 k0 k1 k2
            cases hv : becB (jn n L L' r) (jn n V V' r) (P k) P k
            · have HN := hide (whysB_no (np := np) (n := n) (n' := n') (L := L) (L' := L') (V := V) (V' := V') (P := P) (Q := Q) (fun h => by
                rcases h k hlt with h | ⟨_, _, h⟩
                · omega
                · rw [hr, Int.toNat_natCast] at h
                  have := becB_iff.2 h
                  rw [hv] at this; cases this))
              clear q0 q1 q2 hr
              go_wp2
              go_region_held3 (fun w' => w'.cell? ⟨w.heap.size, 0, none⟩ = some (.int .i64 N) ∧ w'.cell? ⟨w.heap.size, 1, none⟩ = some (.slice a n cap) ∧ w'.cell? ⟨w.heap.size + 1, 0, none⟩ = some (.slice (some ⟨b, off, none⟩) np cp) ∧ w'.cell? ⟨w.heap.size + 1, 1, none⟩ = some (.slice (some ⟨c, off', none⟩) np cq) ∧ w'.cell? ⟨w.heap.size + 1, 2, none⟩ = some (.slice a' n' cap') ∧ w'.cell? ⟨w.heap.size + 1, 3, none⟩ = some (.int .i64 code) ∧ w'.cell? ⟨b, off + k, none⟩ = some (.int .i64 (P k))) (first | go_keep | exact ⟨x0, x1, y0, y1, y2, y3, d0⟩)
                (first | (go_at_call 46; refine (l5At_any _ _ _ _ A L C V _ _ _ _ _ _ _ _ _ A' L' C' V' _ r _ (by first | exact ((unhide HD).later hbel) | exact ((unhide HD).later hbel).drew | exact ((unhide HD).later hbel).drew.drew) (by first | exact ((unhide HE).later hbel).2.2 | exact ((unhide HE).later hbel).2.2.drew | exact ((unhide HE).later hbel).2.2.drew.drew) hn hn' hrn).mono ?_; rintro e wq ⟨rfl, bq⟩; have BL := (by first | exact hbel.trans (bq.mono hbel.size) | exact hbel.drew.trans (bq.mono hbel.size) | exact hbel.drew.drew.trans (bq.mono hbel.size)); have HI := hide (IntsAt.later (by first | exact (unhide HI) | exact (unhide HI).drew | exact (unhide HI).drew.drew) bq); have HB := hide (Ints.later (by first | exact (unhide HB) | exact (unhide HB).drew | exact (unhide HB).drew.drew) bq); have HM := hide (Made.later (by first | exact (unhide HM) | exact (unhide HM).drew | exact (unhide HM).drew.drew) bq); have HX := hide (Box.later (by first | exact (unhide HX) | exact (unhide HX).drew | exact (unhide HX).drew.drew) bq); have HY := hide (SBox.later (by first | exact (unhide HY) | exact (unhide HY).drew | exact (unhide HY).drew.drew) bq); have x0 := cell_later bq (by exact x0); have x1 := cell_later bq (by exact x1); have y0 := cell_later bq (by exact y0); have y1 := cell_later bq (by exact y1); have y2 := cell_later bq (by exact y2); have y3 := cell_later bq (by exact y3); have d0 := cell_later bq (by exact d0)) | (go_at_call 45; refine (l5Because_any _ N _ P k _ _ _ _ _ _ (by first | exact (unhide HB) | exact (unhide HB).drew | exact (unhide HB).drew.drew) ((unhide HMk).ne hk) (by first | exact (unhide HI) | exact (unhide HI).drew | exact (unhide HI).drew.drew) (unhide HLen) (unhide HCl) hN).mono ?_; rintro e wp ⟨rfl, rfl⟩; rw [hv]))
              all_goals go_wp2
              all_goals rw [unhide HN]
              all_goals go_ret
              all_goals exact ⟨rfl, (by first | exact BL | exact BL.drew | exact BL.drew.drew)⟩
            · have HK1 : Hid (∀ j, j < k + 1 → WhyP n n' L L' V V' P Q j) := fun j hj => by
                by_cases e : j = k
                · subst e; exact Or.inr ⟨by omega, by omega, by rw [hr, Int.toNat_natCast]; exact becB_iff.1 hv⟩
                · exact unhide HK j (by omega)
              clear q0 q1 q2 hr
              go_wp2
              go_region_held3 (fun w' => w'.cell? ⟨w.heap.size, 0, none⟩ = some (.int .i64 N) ∧ w'.cell? ⟨w.heap.size, 1, none⟩ = some (.slice a n cap) ∧ w'.cell? ⟨w.heap.size + 1, 0, none⟩ = some (.slice (some ⟨b, off, none⟩) np cp) ∧ w'.cell? ⟨w.heap.size + 1, 1, none⟩ = some (.slice (some ⟨c, off', none⟩) np cq) ∧ w'.cell? ⟨w.heap.size + 1, 2, none⟩ = some (.slice a' n' cap') ∧ w'.cell? ⟨w.heap.size + 1, 3, none⟩ = some (.int .i64 code) ∧ w'.cell? ⟨b, off + k, none⟩ = some (.int .i64 (P k))) (first | go_keep | exact ⟨x0, x1, y0, y1, y2, y3, d0⟩)
                (first | (go_at_call 46; refine (l5At_any _ _ _ _ A L C V _ _ _ _ _ _ _ _ _ A' L' C' V' _ r _ (by first | exact ((unhide HD).later hbel) | exact ((unhide HD).later hbel).drew | exact ((unhide HD).later hbel).drew.drew) (by first | exact ((unhide HE).later hbel).2.2 | exact ((unhide HE).later hbel).2.2.drew | exact ((unhide HE).later hbel).2.2.drew.drew) hn hn' hrn).mono ?_; rintro e wq ⟨rfl, bq⟩; have BL := (by first | exact hbel.trans (bq.mono hbel.size) | exact hbel.drew.trans (bq.mono hbel.size) | exact hbel.drew.drew.trans (bq.mono hbel.size)); have HI := hide (IntsAt.later (by first | exact (unhide HI) | exact (unhide HI).drew | exact (unhide HI).drew.drew) bq); have HB := hide (Ints.later (by first | exact (unhide HB) | exact (unhide HB).drew | exact (unhide HB).drew.drew) bq); have HM := hide (Made.later (by first | exact (unhide HM) | exact (unhide HM).drew | exact (unhide HM).drew.drew) bq); have HX := hide (Box.later (by first | exact (unhide HX) | exact (unhide HX).drew | exact (unhide HX).drew.drew) bq); have HY := hide (SBox.later (by first | exact (unhide HY) | exact (unhide HY).drew | exact (unhide HY).drew.drew) bq); have x0 := cell_later bq (by exact x0); have x1 := cell_later bq (by exact x1); have y0 := cell_later bq (by exact y0); have y1 := cell_later bq (by exact y1); have y2 := cell_later bq (by exact y2); have y3 := cell_later bq (by exact y3); have d0 := cell_later bq (by exact d0)) | (go_at_call 45; refine (l5Because_any _ N _ P k _ _ _ _ _ _ (by first | exact (unhide HB) | exact (unhide HB).drew | exact (unhide HB).drew.drew) ((unhide HMk).ne hk) (by first | exact (unhide HI) | exact (unhide HI).drew | exact (unhide HI).drew.drew) (unhide HLen) (unhide HCl) hN).mono ?_; rintro e wp ⟨rfl, rfl⟩; rw [hv]))
              all_goals
                replace BL := (by first | exact BL | exact BL.drew | exact BL.drew.drew : Below w.heap.size w _)
                have s0 := unhide HB m hmN
                rw [Nat.zero_add] at s0
                have f0 := ((unhide HM).2 m hmN).2
                by_cases hneg : P k < 0
                · have hmn := unhide HMN hneg
                  rw [hmn] at d0
                  have HS := hide (sgI_put2 (w := _) (unhide HB) (unhide HQ) hneg s0)
                  replace HB4 := hide (fun v => by have h := unhide HB4 v; rw [hmn] at h; exact h : ∀ v, Calls Try.prog 44 #[.int .i64 (-(m : Int))] v fun e w' => e = .returned (.int .i64 (m : Int)) ∧ w' = v)
                  have m0 : 0 < m := by omega
                  clear hneg hmn
                  go_wp2_with fail
                  refine (unhide HB4 _).mono ?_
                  rintro e w1 ⟨rfl, rfl⟩
                  go_wp2
                  go_roundw
                  case rel => exact ⟨k + 1, by omega, by go_num, unhide HK1, unhide HS, ((unhide HM).set _ _).set _ _, ((unhide HX).set _ _ (by dsimp only; omega)).set _ _ (by dsimp only; omega), ((unhide HY).set _ _ (by dsimp only; omega)).set _ _ (by dsimp only; omega), (BL.setCell (by dsimp only; omega) _).setCell (by dsimp only; omega) _⟩
                  case measure => simp [intOf]; omega
                · have HS := hide (sgI_put (w := _) (unhide HB) (unhide HQ) (v := 1) (by rw [if_neg hneg]) s0)
                  go_wp2_with fail
                  refine (unhide HB4 _).mono ?_
                  rintro e w1 ⟨rfl, rfl⟩
                  go_wp2
                  go_roundw
                  case rel => exact ⟨k + 1, by omega, by go_num, unhide HK1, unhide HS, (unhide HM).set _ _, (unhide HX).set _ _ (by dsimp only; omega), (unhide HY).set _ _ (by dsimp only; omega), BL.setCell (by dsimp only; omega) _⟩
                  case measure => simp [intOf]; omega
          · have HK1 : Hid (∀ j, j < k + 1 → WhyP n n' L L' V V' P Q j) := fun j hj => by
              by_cases e : j = k
              · subst e; exact Or.inl (by omega)
              · exact unhide HK j (by omega)
            have k2 : decide (0 ≤ Q k) = false := by simp; omega
            clear q0 q1 q2
            go_wp2
            go_quiet (fail)
            have s0 := unhide HB m hmN
            rw [Nat.zero_add] at s0
            have f0 := ((unhide HM).2 m hmN).2
            by_cases hneg : P k < 0
            · have hmn := unhide HMN hneg
              rw [hmn] at d0
              have HS := hide (sgI_put2 (w := _) (unhide HB) (unhide HQ) hneg s0)
              replace HB4 := hide (fun v => by have h := unhide HB4 v; rw [hmn] at h; exact h : ∀ v, Calls Try.prog 44 #[.int .i64 (-(m : Int))] v fun e w' => e = .returned (.int .i64 (m : Int)) ∧ w' = v)
              have m0 : 0 < m := by omega
              clear hneg hmn
              go_wp2_with fail
              refine (unhide HB4 _).mono ?_
              rintro e w1 ⟨rfl, rfl⟩
              go_wp2
              go_roundw
              case rel => exact ⟨k + 1, by omega, by go_num, unhide HK1, unhide HS, ((unhide HM).set _ _).set _ _, ((unhide HX).set _ _ (by dsimp only; omega)).set _ _ (by dsimp only; omega), ((unhide HY).set _ _ (by dsimp only; omega)).set _ _ (by dsimp only; omega), ((below_drewN hbel _).setCell (by dsimp only; omega) _).setCell (by dsimp only; omega) _⟩
              case measure => simp [intOf]; omega
            · have HS := hide (sgI_put (w := _) (unhide HB) (unhide HQ) (v := 1) (by rw [if_neg hneg]) s0)
              go_wp2_with fail
              refine (unhide HB4 _).mono ?_
              rintro e w1 ⟨rfl, rfl⟩
              go_wp2
              go_roundw
              case rel => exact ⟨k + 1, by omega, by go_num, unhide HK1, unhide HS, (unhide HM).set _ _, (unhide HX).set _ _ (by dsimp only; omega), (unhide HY).set _ _ (by dsimp only; omega), (below_drewN hbel _).setCell (by dsimp only; omega) _⟩
              case measure => simp [intOf]; omega
    · have e : k = np := by omega
      subst e
      have HN := hide (whysB_yes (np := k) (n := n) (n' := n') (L := L) (L' := L') (V := V) (V' := V') (P := P) (Q := Q) (unhide HK))
      go_wp2
      rw [unhide HN]
      go_ret
      exact ⟨rfl, hbel⟩
end Go.Proofs.Ytndebifmimbeaab
