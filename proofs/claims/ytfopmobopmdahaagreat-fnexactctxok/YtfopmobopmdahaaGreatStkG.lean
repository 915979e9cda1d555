/- Layers as a stack, of the program; which layers are right. -/
import Derived.Test.YtfopmobopmdahaaGreatStkF
namespace Go.Proofs.YtfopmobopmdahaaGreat
open Go.ChangeShapes Go.WideShapes Go.ChangeAt Go.RowKit Go.Joins
set_option linter.unusedVariables false
set_option linter.unusedSimpArgs false

theorem CtxP.fill {n k : Nat} {Q : Nat → Lyr} (h : CtxP n Q) (hk : k < n) : FillP (alN Q k) (alT Q k) (Q k) := by
  obtain ⟨h1, h2, h3, h4, h5⟩ := h
  refine ⟨?_, ?_, h5 k hk⟩
  · obtain ⟨M, hM⟩ := alN_front Q (k + 1) n (by omega)
    rw [hM] at h3
    exact h3.front
  · have := alT_mono Q (k + 1) n (by omega)
    simp only [alT] at this
    omega
set_option maxRecDepth 100000 in
set_option maxHeartbeats 8000000 in
theorem stackOf_any (hi : Nat) (a : Option Addr) (n cap : Nat) (Q : Nat → Lyr) (w : World) (hd : LaysIn w 0 hi a n Q) (hf : ∀ i, i < n → (Q i).Low) (hs : sumN (fun i => (Q i).c) n ≤ 1048576) (hn : n ≤ 1048576) (hhi : hi ≤ w.heap.size) :
    Calls Tryz.prog 41 #[.slice a n cap] w fun e w' => (∃ v, e = .returned (.tuple #[v, .bool (ctxB n Q)]) ∧ (CtxP n Q → ∃ K T M, v = .pointer (some ⟨K.B, 0, none⟩) ∧ Stk w' w.heap.size K (alN Q n) T M ∧ T.length = alT Q n ∧ M.length = n)) ∧ Below w.heap.size w w' := by
  have hbd := alN_bd Q n
  have HD := hide hd
  have HF := hide hf
  have HSm : Hid (∀ m, m ≤ n → SmL 1048576 (alN Q m)) := fun m hm => SmL.alN m (fun k hk i hi => (hf k (by omega)).1.2.1 i hi)
  clear hd hf
  obtain ⟨b0, hb0⟩ : ∃ x, x = w.heap.size := ⟨_, rfl⟩
  obtain ⟨ws, hws⟩ : ∃ x, x = w.alloc (.cells #[.slice none 0 0, .slice none 0 0, .slice none 0 0] 72) := ⟨_, rfl⟩
  have bs : Below w.heap.size w ws := by rw [hws]; exact (Below.refl _ _).alloc (Nat.le_refl _) _
  have st0 : Stk ws b0 ⟨b0, .slice none 0 0, .slice none 0 0, .slice none 0 0⟩ [] [] [] := by
    refine ⟨Nat.le_refl _, by rw [hws, hb0]; simp [go_sem], by rw [hws, hb0]; simp [go_sem], by rw [hws, hb0]; simp [go_sem], fun o => by rw [hws, hb0]; simp [go_sem], ⟨rfl, .inl ⟨rfl, rfl⟩⟩, ⟨rfl, .inl ⟨rfl, rfl⟩⟩, ⟨rfl, .inl ⟨rfl, rfl⟩⟩, by simp [Value.ownBlock], by simp [Value.ownBlock], by simp [Value.ownBlock], Or.inl rfl, Or.inl rfl, Or.inl rfl⟩
  have HS0 := hide st0
  have HWS := hide hws
  have HB0 := hide hb0
  have tB : ∀ {w' : World}, Below b0 w w' → Below w.heap.size w w' := fun h => by rw [← hb0]; exact h
  rw [← hb0] at bs
  have hb1 : b0 ≤ ws.heap.size := by have := bs.size; omega
  clear st0 hws
  go_enter Tryz.func41, Tryz.ntmps41
  go_wp2
  rw [← unhide HWS, ← hb0]
  rw [← hb0] at hhi
  clear hb0 HWS
  go_loopw [11] (fun i wr => ∃ (k : Nat) (K : SK) (T : List Lt) (M : List (Nat × Nat)), k ≤ n ∧ i = .int .i64 k ∧ K.B = b0 ∧ Stk wr b0 K (alN Q k) T M ∧ M.length = k ∧ T.length = alT Q k ∧ k ≤ 6 ∧ DeclL (alN Q k) ∧ alT Q k ≤ 8 ∧ (∀ i, i < k → ∀ j, j < (Q i).nt → tsL (alN Q (i + 1)) ((Q i).kid j) = 0) ∧ Below b0 w wr) (fun i _ => n - (intOf i).toNat)
  case atStart => exact ⟨0, _, [], [], by omega, rfl, rfl, unhide HS0, rfl, rfl, by omega, DeclL.nil, by simp [alT], fun i hi => by omega, bs⟩
  case round =>
    clear HS0 bs
    obtain ⟨k, K, T, M, hk, rfl, hB, hst, hM, hT, hk6, hdl, hT8, hok, hbel⟩ := hrel
    have HST := hide hst
    have HDL := hide hdl
    have HOK := hide hok
    have HM := hide hM
    have HT := hide hT
    have hM6 : M.length ≤ 6 := by omega
    have hbr : b0 ≤ wr.heap.size := by have := hbel.size; have := unhide HB0; omega
    clear hst hdl hok hM hT
    by_cases hlt : k < n
    · rcases unhide HD with h0 | ⟨bl, off, rfl, _, hbl, DA, TA, DC, TC, hd⟩
      · omega
      obtain ⟨h2, _, hin⟩ := hd k hlt
      obtain ⟨c0, c1⟩ := h2.keep (w' := wr) (fun o => hbel.cell (p := ⟨bl, o, none⟩) (show bl < b0 by omega))
      have HIN := hide (hin.later (hbel.mono hhi))
      have HFk := hide (unhide HF k hlt)
      have hmono : (alN Q (k + 1)).length ≤ (alN Q n).length := by
        obtain ⟨N, hN⟩ := alN_front Q (k + 1) n (by omega)
        rw [hN, List.length_append]; omega
      have hLk : (alN Q k ++ (Q k).ns).length ≤ 1048576 := by have : alN Q (k + 1) = alN Q k ++ (Q k).ns := rfl; rw [← this]; omega
      have hSk : Hid (SmL 1048576 (alN Q k ++ (Q k).ns)) := unhide HSm (k + 1) (by omega)
      have HNo : Hid (¬ FillP (alN Q k) (alT Q k) (Q k) → ctxB n Q = false) := fun hh => ctxB_no (fun hc => hh (hc.fill hlt))
      clear h2 hd hin hmono
      generalize DA k = da at *
      generalize TA k = ta at *
      generalize DC k = dc at *
      generalize TC k = tc at *
      obtain ⟨wx, hwx⟩ : ∃ v, v = wr.alloc (.cells #[.slice da (Q k).nd dc, .slice ta (Q k).nt tc] 62) := ⟨_, rfl⟩
      have bx : Below wr.heap.size wr wx := by rw [hwx]; exact (Below.refl _ _).alloc (Nat.le_refl _) _
      have z0 : wx.cell? ⟨wr.heap.size, 0, none⟩ = some (.slice da (Q k).nd dc) := by rw [hwx]; simp [go_sem]
      have z1 : wx.cell? ⟨wr.heap.size, 1, none⟩ = some (.slice ta (Q k).nt tc) := by rw [hwx]; simp [go_sem]
      have Fx := hide ((unhide HST).far_new (x := wr.heap.size) (Nat.le_refl _))
      have HSX := hide ((unhide HST).later bx)
      have HIX := hide ((unhide HIN).later (bx.mono (by omega)))
      have hbx := Nat.le_trans hbr bx.size
      have BLx := hbel.trans (bx.mono hbr)
      have HWX := hide hwx
      clear hwx bx HST HIN
      go_wp2_with fail
      rw [← unhide HWX, ← hB]
      refine (push_any wx b0 K (alN Q k) T M (unhide HSX) hM6 hbx).mono ?_
      rintro e w2 ⟨rfl, K2, hB2, hP2, hS2⟩
      have bX2 := hP2.below (unhide HSX).isUp hbx
      have BL2 := BLx.trans bX2
      have q0 := hP2.cell z0 (unhide Fx)
      have q1 := hP2.cell z1 (unhide Fx)
      have hb2 := Nat.le_trans hbx hP2.size
      have HS2 := hide hS2
      have hB2' : K2.B = b0 := hB2.trans hB
      clear hP2 hS2 hB2 c0 c1 z0 z1 HWX
      by_cases h6 : M.length = 6
      · have kd : decide (M.length ≠ 6) = false := by simp [h6]
        have HNn := hide (ctxB_no (n := n) (Q := Q) (fun hc => by have := hc.2.1; have := unhide HM; omega))
        have HNp : Hid (¬ CtxP n Q) := fun hc => by have := hc.2.1; have := unhide HM; omega
        clear h6
        rw [kd]
        go_wp2
        rw [unhide HNn]
        exact bodyPost_ret (v := .tuple #[.pointer none, .bool false]) (by simp [results, Tryz.results41, go_sem]) rfl ⟨⟨_, rfl, fun hc => absurd hc (unhide HNp)⟩, tB BL2⟩
      · have kd : decide (M.length ≠ 6) = true := by simp [h6]
        have HS3 := hide (unhide HS2 h6)
        have hM1 : 0 < (M ++ [((alN Q k).length, T.length)]).length := by simp
        have hM7 : (M ++ [((alN Q k).length, T.length)]).length ≤ 6 := by simp; omega
        have hk5 : k < 6 := by have := unhide HM; omega
        clear h6 HS2
        rw [kd]
        go_wp2_with fail
        rw [← hB, ← hB2'.trans hB.symm]
        refine (fill_any hi w2 b0 K2 (alN Q k) T _ (Q k) da ta dc tc (unhide HS3) hM1 hM7 hb2 hLk (unhide hSk) (by have := unhide HT; omega) ((unhide HIX).later (bX2.mono hhi)) (unhide HFk) hhi (unhide HDL)).mono ?_
        rintro e w3 ⟨rfl, K3, hB3, hP3, hS4⟩
        have BL3 := BL2.trans (hP3.below (unhide HS3).isUp hb2)
        have HB3 : Hid (K3.B = b0) := hB3.trans hB2'
        have HS4 := hide hS4
        clear hP3 hS4 hB3 q0 q1 bX2
        rw [unhide HT]
        cases hv : fillB (alN Q k) (alT Q k) (Q k)
        · have hnp : ¬ FillP (alN Q k) (alT Q k) (Q k) := fun h => by rw [fillB_yes h] at hv; cases hv
          have HNn := hide (unhide HNo hnp)
          have HNp : Hid (¬ CtxP n Q) := fun hc => hnp (hc.fill hlt)
          clear hnp hv
          go_wp2
          rw [unhide HNn]
          exact bodyPost_ret (v := .tuple #[.pointer none, .bool false]) (by simp [results, Tryz.results41, go_sem]) rfl ⟨⟨_, rfl, fun hc => absurd hc (unhide HNp)⟩, tB BL3⟩
        · have hfp := fillB_iff.1 hv
          rw [unhide HT] at HS4
          obtain ⟨T4, hT4, S4⟩ := unhide HS4 hfp
          have HS5 : Hid (Stk w3 b0 K3 (alN Q (k + 1)) T4 (M ++ [((alN Q k).length, alT Q k)])) := S4
          have HT5 : Hid (T4.length = alT Q (k + 1)) := hT4
          have HM5 : Hid ((M ++ [((alN Q k).length, alT Q k)]).length = k + 1) := by show _ = _; rw [List.length_append, unhide HM]; rfl
          have HD5 : Hid (DeclL (alN Q (k + 1))) := hfp.1
          have HT8 : Hid (alT Q (k + 1) ≤ 8) := hfp.2.1
          have HO5 : Hid (∀ i, i < k + 1 → ∀ j, j < (Q i).nt → tsL (alN Q (i + 1)) ((Q i).kid j) = 0) := fun i hi => by
            by_cases e : i = k
            · subst e; exact hfp.2.2
            · exact unhide HOK i (by omega)
          clear hfp S4 hT4 HS4
          go_wp2
          go_roundw
          case rel => exact ⟨k + 1, K3, T4, _, by omega, by go_num, unhide HB3, unhide HS5, unhide HM5, unhide HT5, by omega, unhide HD5, unhide HT8, unhide HO5, BL3⟩
          case measure => simp [intOf]; omega
    · have ek : k = n := by omega
      have HBB := hide hB
      clear hB
      by_cases h0 : n = 0
      · have HNn := hide (ctxB_no (n := n) (Q := Q) (fun hc => by have := hc.1; omega))
        have HNp : Hid (¬ CtxP n Q) := fun hc => by have := hc.1; omega
        have kd : decide (0 < (n : Int)) = false := by simp; omega
        have H0 := hide h0
        clear h0 ek
        go_wp2
        rw [unhide HNn]
        exact bodyPost_ret (v := .tuple #[.pointer (some ⟨b0, 0, none⟩), .bool false]) (by simp [results, Tryz.results41, go_sem]; exact unhide H0) rfl ⟨⟨_, rfl, fun hc => absurd hc (unhide HNp)⟩, tB hbel⟩
      · subst ek
        have hc : CtxP k Q := ⟨by omega, hk6, unhide HDL, hT8, unhide HOK⟩
        have HC := hide hc
        have HNy := hide (ctxB_yes hc)
        have kd : decide (0 < (k : Int)) = true := by simp; omega
        have H0 := hide h0
        clear hc h0
        go_wp2
        rw [unhide HNy]
        exact bodyPost_ret (v := .tuple #[.pointer (some ⟨b0, 0, none⟩), .bool true]) (by simp [results, Tryz.results41, go_sem]; have := unhide H0; omega) rfl ⟨⟨_, rfl, fun _ => ⟨K, T, M, by rw [unhide HBB], by rw [← unhide HB0]; exact unhide HST, unhide HT, unhide HM⟩⟩, tB hbel⟩
set_option maxRecDepth 100000 in
set_option maxHeartbeats 400000 in
theorem iCtxOk_any (hi : Nat) (a : Option Addr) (n cap : Nat) (Q : Nat → Lyr) (w : World) (hd : LaysIn w 0 hi a n Q) (hf : ∀ i, i < n → (Q i).Low) (hs : sumN (fun i => (Q i).c) n ≤ 1048576) (hn : n ≤ 1048576) (hhi : hi ≤ w.heap.size) :
    Calls Tryz.prog 12 #[.slice a n cap] w fun e w' => e = .returned (.bool (ctxB n Q)) ∧ Below w.heap.size w w' := by
  have HC := hide (stackOf_any hi a n cap Q w hd hf hs hn hhi)
  clear hd hf hs
  go_enter Tryz.func12, Tryz.ntmps12
  go_wp2_with fail
  refine (unhide HC).mono ?_
  rintro e w1 ⟨⟨v, rfl, _⟩, b1⟩
  go_wp2
  go_ret
  exact ⟨rfl, b1⟩
end Go.Proofs.YtfopmobopmdahaaGreat
