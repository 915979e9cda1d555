/- Which marks are so (SatVals): both sides' answers. -/
import Derived.Test.YtndebifmimbeaabValA
namespace Go.Proofs.Ytndebifmimbeaab
open Go.ChangeShapes Go.WideShapes Go.ChangeAt Go.RowKit Go.Joins
set_option linter.unusedVariables false

theorem svLen_yes {m : Int} {b : Bool} (h : b = true) : svLen m b = m.toNat := by unfold svLen; rw [if_pos h]
theorem svLen_no {m : Int} {b : Bool} (h : b = false) : svLen m b = 0 := by unfold svLen; rw [h]; rfl
set_option maxHeartbeats 4000000 in
theorem sSatVals_any (m : Int) (a : Option Addr) (n cap : Nat) (A : Nat → Option Addr) (L C : Nat → Nat) (V : Nat → Nat → Int) (p : Option Addr) (np cp : Nat) (P : Nat → Int) (q : Option Addr) (nq cq : Nat) (Q : Nat → Int) (a' : Option Addr) (n' cap' : Nat) (A' : Nat → Option Addr) (L' C' : Nat → Nat) (V' : Nat → Nat → Int) (code : Int) (w : World) (hd : RwsAt w a n A L C V) (hf : Fits n L V) (hd' : SatIn w p np P q nq Q a' n' A' L' C' V') (hf' : SFit np P nq Q n' L' V' code) :
    Calls Try.prog 11 #[.agg #[.int .i64 m, .slice a n cap], .agg #[.slice p np cp, .slice q nq cq, .slice a' n' cap', .int .i64 code]] w fun e w' => VOut (svLen m (sokB m n L V np P nq Q n' L' V' code)) (soB P np) w.heap.size e w' ∧ Below w.heap.size w w' := by
  have HD := hide hd
  have HE := hide hd'
  have HF := hide hf
  have HG := hide hf'
  have hn' := hf'.2.2.2.2.1.1
  have hnp := hf'.1
  have hnq := hf'.2.1
  clear hd hd' hf hf'
  obtain ⟨w0, hw0⟩ : ∃ v, v = (w.alloc (.cells #[.int .i64 m, .slice a n cap] 36)).alloc (.cells #[.slice p np cp, .slice q nq cq, .slice a' n' cap', .int .i64 code] 28) := ⟨_, rfl⟩
  have X : Box w0 w.heap.size m a n cap := by rw [hw0]; exact ⟨by simp [go_sem], by simp [go_sem]⟩
  have Y : SBox w0 (w.heap.size + 1) p np cp q nq cq a' n' cap' code := by rw [hw0]; exact ⟨by simp [go_sem], by simp [go_sem], by simp [go_sem], by simp [go_sem]⟩
  have BL : Below w.heap.size w w0 := by rw [hw0]; exact ((Below.refl w.heap.size w).alloc (by simp <;> omega) _).alloc (by simp <;> omega) _
  go_enter Try.func11, Try.ntmps11
  go_wp2_with fail
  rw [← hw0]
  clear hw0
  refine (sSatOk_any _ _ _ _ A L C V _ _ _ P _ _ _ Q _ _ _ A' L' C' V' _ _ ((unhide HD).later BL) (unhide HF) ((unhide HE).later BL) (unhide HG)).mono ?_
  rintro e w1 ⟨rfl, b1⟩
  replace X := X.later b1
  replace Y := Y.later b1
  replace BL := BL.trans (b1.mono BL.size)
  clear b1
  cases h1 : sokB m n L V np P nq Q n' L' V' code
  · have HL := hide (svLen_no (m := m) h1)
    obtain ⟨x0, x1⟩ := id X
    obtain ⟨y0, y1, y2, y3⟩ := id Y
    go_wp2
    go_ret
    rw [unhide HL]
    exact ⟨⟨_, _, rfl, Or.inl rfl, Or.inl rfl⟩, BL.alloc BL.size _⟩
  · obtain ⟨⟨m0, m7, _, _⟩, _, _, _, h5, h6, _⟩ := sokB_iff.1 h1
    subst h5
    obtain ⟨N, rfl⟩ := Int.eq_ofNat_of_zero_le m0
    have HL := hide (svLen_yes (m := N) h1)
    rw [Int.toNat_natCast] at h6 HL
    have H6 := hide h6
    have HS := hide h1
    clear h6 h1
    obtain ⟨x0, x1⟩ := id X
    obtain ⟨y0, y1, y2, y3⟩ := id Y
    go_wp2_with fail
    clear x0 x1 y0 y1 y2 y3
    refine (l5Vals_any N _ _ _ _ _ _ P _ ((unhide HE).later BL).1 hnp (unhide H6) (by omega)).mono ?_
    rintro e w2 ⟨rfl, hv, lv, b1⟩
    have HV := hide hv
    obtain ⟨B, hB⟩ : ∃ B, B = w1.heap.size + 1 := ⟨_, rfl⟩
    rw [← hB] at HV lv ⊢
    clear hv hB
    replace X := X.later b1
    replace Y := Y.later b1
    replace BL := BL.trans (b1.mono BL.size)
    clear b1
    obtain ⟨w3, hw3⟩ : ∃ v, v = w2.alloc (.cells #[] 4) := ⟨_, rfl⟩
    have b3 : Below w2.heap.size w2 w3 := by rw [hw3]; exact (Below.refl _ _).alloc (Nat.le_refl _) _
    obtain ⟨b2, hb2⟩ : ∃ b, b = w2.heap.size := ⟨_, rfl⟩
    have OW : Hid (w3.ownsRow b2 4 1 (.slice (some ⟨w2.heap.size, 0, none⟩) 0 0) 0 (bcells (soB P np) 0)) := by
      show World.ownsRow _ _ _ _ _ _ _
      rw [hw3, hb2]; exact own_new w2 4 1
    have l1 : B < b2 := by omega
    have l2 : w.heap.size < b2 := by have := World.block_lt_of_cell? _ _ X.1; simp only at this; omega
    have l3 : b2 ≤ w3.heap.size := by have := b3.size; omega
    clear hb2
    obtain ⟨x0, x1⟩ := id X
    obtain ⟨y0, y1, y2, y3⟩ := id Y
    go_wp2
    clear x0 x1 y0 y1 y2 y3
    rw [← hw3]
    replace HV := hide ((unhide HV).later b3)
    replace X := X.later b3
    replace BL := BL.trans (b3.mono BL.size)
    replace lv := Nat.lt_of_lt_of_le lv b3.size
    clear hw3 b3 Y
    have hBw : B < w3.heap.size := lv
    go_loopw [6, 7] (fun v i wr => ∃ (k : Nat) (a2 : Option Addr) (c2 : Nat), k ≤ N ∧ i = .int .i64 ((k : Int) + 1) ∧ v = .slice a2 k c2 ∧ wr.ownsRow b2 4 1 (.slice a2 k c2) k (bcells (soB P np) k) ∧ b2 ≤ wr.heap.size ∧ Ints wr B 0 (N + 1) (sgI P np) ∧ wr.cell? ⟨w.heap.size, 0, none⟩ = some (.int .i64 N) ∧ Below w.heap.size w wr) (fun _ i _ => N + 1 - (intOf i).toNat)
    case atStart => exact ⟨0, _, _, by omega, rfl, rfl, unhide OW, l3, unhide HV, X.1, BL⟩
    case round =>
      clear OW HV BL
      obtain ⟨k, a2, c2, hk, rfl, rfl, ow, l4, hv, x0, BL⟩ := hrel
      have hlt2 := World.ownsRow.lt ow
      have HV := hide hv
      clear hv
      by_cases hlt : k < N
      · obtain ⟨a3, c3, w4, hrun, ow4, gr4⟩ := bool_one wr b2 _ k (soB P np) ow (by omega) l4
        have HR := hide hrun
        have OW4 := hide ow4
        have d0 := unhide HV (k + 1) (by omega)
        rw [Nat.zero_add] at d0
        have hB4 : B < w4.heap.size := Nat.lt_of_lt_of_le (World.block_lt_of_cell? _ _ d0) gr4.size
        have HV4 : Hid (Ints w4 B 0 (N + 1) (sgI P np)) := fun i hi => grown_cell gr4 (unhide HV i hi) (fun e => by have := (hlt2 _ e).1; simp only at this; omega)
        have x4 : w4.cell? ⟨w.heap.size, 0, none⟩ = some (.int .i64 N) := grown_cell gr4 x0 (fun e => by have := (hlt2 _ e).1; simp only at this; omega)
        have B4 : Below w.heap.size w w4 := below_of_own BL gr4 (fun j hj => ⟨by have := (hlt2 _ hj).1; omega, (hlt2 _ hj).2⟩)
        have l5 : b2 ≤ w4.heap.size := Nat.le_trans l4 gr4.size
        have kv : soB P np k = (sgI P np (k + 1) == 1) := by unfold soB; simp [BEq.beq]
        rw [kv] at HR
        clear hrun ow4 gr4 ow hlt2 kv
        have k1 : (k : Int) + 1 < (N : Int) + 1 := by omega
        have k2 : (k : Int) + 1 ≤ (N : Int) := by omega
        generalize sgI P np (k + 1) = sv at *
        go_wp2_with (first | (at_builtin; refine wpList_append_run _ rfl (.tmp 24) (.tmp 30) 34 rfl _ _ _ _ rfl rfl (unhide HR) ?_))
        go_roundw
        case rel => exact ⟨k + 1, a3, c3, by omega, by go_num, rfl, unhide OW4, l5, unhide HV4, x4, B4⟩
        case measure => simp [intOf]; omega
      · have e : k = N := by omega
        subst e
        have HO := hide (own_bools (own_mono ow (Nat.le_of_lt l2)))
        clear ow hlt2
        go_wp2
        go_ret
        rw [unhide HL]
        exact ⟨⟨_, _, rfl, (unhide HO).1, (unhide HO).2⟩, BL⟩
set_option maxHeartbeats 4000000 in
theorem iSatVals_any (m : Int) (a : Option Addr) (n cap : Nat) (A : Nat → Option Addr) (L C : Nat → Nat) (V : Nat → Nat → Int) (p : Option Addr) (np cp : Nat) (P : Nat → Int) (q : Option Addr) (nq cq : Nat) (Q : Nat → Int) (a' : Option Addr) (n' cap' : Nat) (A' : Nat → Option Addr) (L' C' : Nat → Nat) (V' : Nat → Nat → Int) (code : Int) (w : World) (hd : RwsAt w a n A L C V) (hf : Fits n L V) (hd' : SatIn w p np P q nq Q a' n' A' L' C' V') (hf' : SFit np P nq Q n' L' V' code) :
    Calls Try.prog 13 #[.agg #[.int .i64 m, .slice a n cap], .agg #[.slice p np cp, .slice q nq cq, .slice a' n' cap', .int .i64 code]] w fun e w' => VOut (svLen m (sokB m n L V np P nq Q n' L' V' code)) (soB P np) w.heap.size e w' ∧ Below w.heap.size w w' := by
  have HD := hide hd
  have HE := hide hd'
  have HF := hide hf
  have HG := hide hf'
  have hn' := hf'.2.2.2.2.1.1
  have hnp := hf'.1
  have hnq := hf'.2.1
  clear hd hd' hf hf'
  obtain ⟨w0, hw0⟩ : ∃ v, v = (w.alloc (.cells #[.int .i64 m, .slice a n cap] 36)).alloc (.cells #[.slice p np cp, .slice q nq cq, .slice a' n' cap', .int .i64 code] 28) := ⟨_, rfl⟩
  have X : Box w0 w.heap.size m a n cap := by rw [hw0]; exact ⟨by simp [go_sem], by simp [go_sem]⟩
  have Y : SBox w0 (w.heap.size + 1) p np cp q nq cq a' n' cap' code := by rw [hw0]; exact ⟨by simp [go_sem], by simp [go_sem], by simp [go_sem], by simp [go_sem]⟩
  have BL : Below w.heap.size w w0 := by rw [hw0]; exact ((Below.refl w.heap.size w).alloc (by simp <;> omega) _).alloc (by simp <;> omega) _
  go_enter Try.func13, Try.ntmps13
  go_wp2_with fail
  rw [← hw0]
  clear hw0
  refine (iSatOk_any _ _ _ _ A L C V _ _ _ P _ _ _ Q _ _ _ A' L' C' V' _ _ ((unhide HD).later BL) (unhide HF) ((unhide HE).later BL) (unhide HG)).mono ?_
  rintro e w1 ⟨rfl, b1⟩
  replace X := X.later b1
  replace Y := Y.later b1
  replace BL := BL.trans (b1.mono BL.size)
  clear b1
  cases h1 : sokB m n L V np P nq Q n' L' V' code
  · have HL := hide (svLen_no (m := m) h1)
    obtain ⟨x0, x1⟩ := id X
    obtain ⟨y0, y1, y2, y3⟩ := id Y
    go_wp2
    go_ret
    rw [unhide HL]
    exact ⟨⟨_, _, rfl, Or.inl rfl, Or.inl rfl⟩, BL⟩
  · obtain ⟨⟨m0, m7, _, _⟩, _, _, _, h5, h6, _⟩ := sokB_iff.1 h1
    subst h5
    obtain ⟨N, rfl⟩ := Int.eq_ofNat_of_zero_le m0
    have HL := hide (svLen_yes (m := N) h1)
    rw [Int.toNat_natCast] at h6 HL
    have HMk := hide h6
    clear h6 h1
    have hmk := run_make_wide (P := Try.prog) 34 4 _ 1 1 Try.underlying34 infoBool3 .i64 .i64 N (by omega) (by omega)
    simp only [Nat.mul_one] at hmk
    have lw : w.heap.size < w1.heap.size := by have := World.block_lt_of_cell? _ _ X.1; simp only at this; omega
    have lw2 : w.heap.size + 1 < w1.heap.size := by have := World.block_lt_of_cell? _ _ Y.1; simp only at this; omega
    obtain ⟨x0, x1⟩ := id X
    obtain ⟨y0, y1, y2, y3⟩ := id Y
    go_wp2
    go_loopw [18] (fun i wr => ∃ k : Nat, k ≤ np ∧ i = .int .i64 k ∧ Bls wr w1.heap.size 0 N (soB P k) ∧ Made wr w1.heap.size N ∧ Below w.heap.size w wr) (fun i _ => np - (intOf i).toNat)
    case atStart =>
      refine ⟨0, by omega, rfl, fun i hi => ?_, Made.new _ _ _ _, BL.alloc BL.size _⟩
      rw [Nat.zero_add]
      exact made_cell w1 (.bool false) N i 4 hi
    case round =>
      clear BL X Y
      obtain ⟨k, hk, rfl, hbl, hmd, BL⟩ := hrel
      have HB := hide hbl
      have HM := hide hmd
      clear hbl hmd
      by_cases hlt : k < np
      · obtain ⟨b, off, rfl, hb, hdp⟩ := (unhide HE).1.ok hlt
        have d0 := (BL.cell (p := ⟨b, off + k, none⟩) hb).trans (hdp k hlt)
        clear hdp
        obtain ⟨⟨m1, m2, m3⟩, _⟩ := unhide HMk k hlt
        have hba := bare_abs m1 m2 (by omega)
        obtain ⟨a1, a2⟩ := absI_bd _ _ m1 m2
        have a3 : 1 ≤ absI (P k) := by unfold absI; split <;> omega
        obtain ⟨j, hj⟩ : ∃ j : Nat, absI (P k) = ((j + 1 : Nat) : Int) := ⟨(absI (P k)).toNat - 1, by omega⟩
        have hjN : j < N := by omega
        have hjI : (j : Int) < (N : Int) := by omega
        have hb5 : ∀ v, Calls Try.prog 33 #[.int .i64 (P k)] v fun e w' => e = .returned (.int .i64 ((j : Int) + 1)) ∧ w' = v := fun v => by
          rw [show (j : Int) + 1 = bareI (P k) by rw [hba, hj]; simp]
          exact bare_any _ _ (by unfold W64; omega)
        have HB5 := hide hb5
        have q0 := unhide HB j hjN
        rw [Nat.zero_add] at q0
        have f0 := ((unhide HM).2 j hjN).2
        have HN : Hid (Bls (wr.setCell ⟨w1.heap.size, j, none⟩ (.bool (decide (0 < P k)))) w1.heap.size 0 N (soB P (k + 1))) := fun i hi => by
          rw [soB_next hj m3]
          by_cases e : i = j
          · subst e
            rw [if_pos rfl, Nat.zero_add]
            exact World.cell?_setCell_same _ _ _ q0
          · rw [if_neg e, World.cell?_setCell_other _ _ _ _ (by simp <;> omega)]
            exact unhide HB i hi
        clear hb5 hj hba
        go_wp2_with fail
        refine (unhide HB5 _).mono ?_
        rintro e w9 ⟨rfl, rfl⟩
        go_wp2
        go_roundw
        case rel => exact ⟨k + 1, by omega, by go_num, unhide HN, (unhide HM).set _ _, BL.setCell (by dsimp only; omega) _⟩
        case measure => simp [intOf]; omega
      · have e : k = np := by omega
        subst e
        go_wp2
        go_ret
        rw [unhide HL]
        exact ⟨⟨_, _, rfl, (unhide HB).at (unhide HM).1, Or.inr ⟨_, rfl, by omega, unhide HM⟩⟩, BL⟩
end Go.Proofs.Ytndebifmimbeaab
