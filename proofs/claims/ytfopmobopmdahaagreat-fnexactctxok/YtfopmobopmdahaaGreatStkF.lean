/- The stack of layers: all of a layer put into its last one; layers as a stack. -/
import Derived.Test.YtfopmobopmdahaaGreatStkE
import Derived.Test.YtfopmobopmdahaaGreatStkB
namespace Go.Proofs.YtfopmobopmdahaaGreat
open Go.ChangeShapes Go.WideShapes Go.ChangeAt Go.RowKit Go.Joins
set_option linter.unusedVariables false
set_option linter.unusedSimpArgs false

/-- The first names of a layer. -/
def Lyr.nsTo (q : Lyr) (j : Nat) : List (ByteArray × Int) := dprs j q.S q.V
theorem nsTo_succ (q : Lyr) (j : Nat) : q.nsTo (j + 1) = q.nsTo j ++ [(q.S j, q.V j)] := by
  unfold Lyr.nsTo dprs
  rw [List.range_succ, List.map_append]
  rfl
theorem nsTo_len (q : Lyr) (j : Nat) : (q.nsTo j).length = j := dprs_len _ _ _
theorem nsTo_all (q : Lyr) : q.nsTo q.nd = q.ns := rfl
theorem nsTo_front (q : Lyr) {j : Nat} (h : j ≤ q.nd) : ∃ M, q.ns = q.nsTo j ++ M := by
  induction hd : q.nd - j generalizing j with
  | zero => have : j = q.nd := by omega
            subst this; exact ⟨[], by simp [Lyr.nsTo, Lyr.ns]⟩
  | succ n ih =>
    obtain ⟨M, hM⟩ := ih (j := j + 1) (by omega) (by omega)
    exact ⟨(q.S j, q.V j) :: M, by rw [hM, nsTo_succ]; simp⟩
/-- What fill asks of a layer behind names L and so many terms. -/
def FillP (L : List (ByteArray × Int)) (n : Nat) (q : Lyr) : Prop := DeclL (L ++ q.ns) ∧ n + q.nt ≤ 8 ∧ ∀ j, j < q.nt → tsL (L ++ q.ns) (q.kid j) = 0
noncomputable def fillB (L : List (ByteArray × Int)) (n : Nat) (q : Lyr) : Bool := @decide (FillP L n q) (Classical.propDecidable _)
theorem fillB_iff {L : List (ByteArray × Int)} {n : Nat} {q : Lyr} : fillB L n q = true ↔ FillP L n q := by simp [fillB]
theorem fillB_yes {L : List (ByteArray × Int)} {n : Nat} {q : Lyr} (h : FillP L n q) : fillB L n q = true := fillB_iff.2 h
theorem fillB_no {L : List (ByteArray × Int)} {n : Nat} {q : Lyr} (h : ¬ FillP L n q) : fillB L n q = false := by simpa [fillB] using h
theorem tprs_succ (n : Nat) (kid : Nat → TT) (AD : Nat → Option Addr) (CP : Nat → Nat) : tprs (n + 1) kid AD CP = tprs n kid AD CP ++ [(kid n, AD n, CP n)] := by
  unfold tprs
  rw [List.range_succ, List.map_append]
  rfl
set_option maxRecDepth 100000 in
set_option maxHeartbeats 8000000 in
theorem fill_any (hi : Nat) (w : World) (base : Nat) (K : SK) (L : List (ByteArray × Int)) (T : List Lt) (M : List (Nat × Nat)) (q : Lyr) (da ta : Option Addr) (dc tc : Nat) (h : Stk w base K L T M) (hM : 0 < M.length) (hM6 : M.length ≤ 6) (hb : base ≤ w.heap.size) (hL : (L ++ q.ns).length ≤ 1048576) (hs : SmL 1048576 (L ++ q.ns)) (hT : T.length ≤ 8) (hin : q.In w 0 hi da ta) (hf : q.Low) (hhi : hi ≤ base) (hDL : DeclL L) :
    Calls Tryz.prog 67 #[.pointer (some ⟨K.B, 0, none⟩), .agg #[.slice da q.nd dc, .slice ta q.nt tc]] w fun e w' => e = .returned (.bool (fillB L T.length q)) ∧ ∃ K', K'.B = K.B ∧ Stp K w K' w' ∧ (FillP L T.length q → ∃ T', T'.length = T.length + q.nt ∧ Stk w' base K' (L ++ q.ns) T' M) := by
  have hup := h.isUp
  obtain ⟨x, hx⟩ : ∃ x, x = w.heap.size := ⟨_, rfl⟩
  obtain ⟨wb, hwb⟩ : ∃ v, v = w.alloc (.cells #[.slice da q.nd dc, .slice ta q.nt tc] 62) := ⟨_, rfl⟩
  have bb : Below w.heap.size w wb := by rw [hwb]; exact (Below.refl _ _).alloc (Nat.le_refl _) _
  have x0 : wb.cell? ⟨x, 0, none⟩ = some (.slice da q.nd dc) := by rw [hwb, hx]; simp [go_sem]
  have x1 : wb.cell? ⟨x, 1, none⟩ = some (.slice ta q.nt tc) := by rw [hwb, hx]; simp [go_sem]
  have Fx := hide (h.far_new (x := x) (by omega))
  have HKb := hide (h.later bb)
  have PB := hide (Stp.of (K := K) bb)
  have hin' := hide (hin.later (bb.mono (by omega)))
  have hbb := Nat.le_trans hb bb.size
  have HWB := hide hwb
  have HUP := hide hup
  have HS := hide hs
  have hln : (L ++ q.ns).length = L.length + q.nd := by rw [List.length_append, ns_len]
  have HF := hide hf
  have HDL := hide hDL
  clear h hin hs hwb hup hf hDL
  go_enter Tryz.func67, Tryz.ntmps67
  go_wp2_with fail
  rw [← hx, ← unhide HWB]
  clear hx HWB
  go_wp2
  go_loopw [12] (fun i wr => ∃ (k : Nat) (K' : SK), k ≤ q.nd ∧ i = .int .i64 k ∧ K'.B = K.B ∧ Stk wr base K' (L ++ q.nsTo k) T M ∧ DeclL (L ++ q.nsTo k) ∧ Stp K wb K' wr) (fun i _ => q.nd - (intOf i).toNat)
  case atStart => exact ⟨0, K, by omega, rfl, rfl, by simpa [Lyr.nsTo, dprs] using unhide HKb, by simpa [Lyr.nsTo, dprs] using unhide HDL, Stp.refl _ _⟩
  case round =>
    obtain ⟨k, K', hk, rfl, hB, hst, hdl, hP⟩ := hrel
    have HST := hide hst
    have HDk := hide hdl
    have HPk := hide hP
    have bw := hP.below (unhide HUP) hbb
    have hbr : base ≤ wr.heap.size := Nat.le_trans hbb hP.size
    have y0 := hP.cell x0 (unhide Fx)
    have y1 := hP.cell x1 (unhide Fx)
    clear hst hdl hP
    by_cases hlt : k < q.nd
    · rcases (unhide hin').1 with h0 | ⟨bl, off, rfl, _, hbl, hd⟩
      · omega
      obtain ⟨c0, c1⟩ := hd k hlt
      have d0 := (bw.cell (p := ⟨bl, off + k * 2, none⟩) (show bl < base by omega)).trans c0
      have d1 := (bw.cell (p := ⟨bl, off + k * 2 + 1, none⟩) (show bl < base by omega)).trans c1
      clear c0 c1 hd
      obtain ⟨wx, hwx⟩ : ∃ v, v = wr.alloc (.cells #[.string (q.S k), .int .i64 (q.V k)] 40) := ⟨_, rfl⟩
      have bx : Below wr.heap.size wr wx := by rw [hwx]; exact (Below.refl _ _).alloc (Nat.le_refl _) _
      have HWX := hide hwx
      have HSX := hide ((unhide HST).later bx)
      have HPX := hide ((unhide HPk).trans (Stp.of bx))
      have hl1 : (L ++ q.nsTo k).length ≤ 1048575 := by rw [List.length_append, nsTo_len]; omega
      have e1 : (L ++ q.nsTo k) ++ [(q.S k, q.V k)] = L ++ q.nsTo (k + 1) := by rw [nsTo_succ, List.append_assoc]
      have hs1 : Hid (SmL 1048576 ((L ++ q.nsTo k) ++ [(q.S k, q.V k)])) := by
        show SmL _ _
        rw [e1]
        obtain ⟨N, hN⟩ := nsTo_front q (show k + 1 ≤ q.nd by omega)
        intro i hi
        have := unhide HS i (by rw [hN, ← List.append_assoc, List.length_append]; omega)
        rw [hN, ← List.append_assoc, (sL_front hi).1] at this
        exact this
      have HE1 := hide e1
      have hbx := Nat.le_trans hbr bx.size
      clear hwx e1 bx
      go_wp2_with fail
      rw [← unhide HWX, ← hB]
      refine (name_any wx base K' (L ++ q.nsTo k) T M (q.S k) (q.V k) (unhide HSX) hM hM6 hbx hl1 (unhide hs1)).mono ?_
      rintro e w2 ⟨rfl, K2, hB2, hP2, hS2⟩
      have HP2 := hide ((unhide HPX).trans hP2)
      rw [unhide HE1] at hS2 ⊢
      have HS2 := hide hS2
      have hB2' : K2.B = K.B := hB2.trans hB
      have HB2 := hide hB2'
      clear hS2 hP2 d0 d1 y0 y1 HWX hB2 hB2'
      cases hv : declB (L ++ q.nsTo (k + 1)).length (sL (L ++ q.nsTo (k + 1))) (vL (L ++ q.nsTo (k + 1)))
      · have HNo : Hid (¬ FillP L T.length q) := fun hp => by
          obtain ⟨N, hN⟩ := nsTo_front q (show k + 1 ≤ q.nd by omega)
          have h1 := hp.1
          rw [hN, ← List.append_assoc] at h1
          have := declB_yes h1.front
          rw [hv] at this; cases this
        have HN2 := hide (fillB_no (unhide HNo))
        have HPf := hide ((unhide PB).trans (unhide HP2))
        go_wp2
        rw [unhide HN2]
        go_ret
        exact ⟨rfl, K2, unhide HB2, unhide HPf, fun hp => absurd hp (unhide HNo)⟩
      · have hD : DeclL (L ++ q.nsTo (k + 1)) := (declB_iff _ _ _).1 hv
        have HD := hide hD
        clear hD
        go_wp2
        go_roundw
        case rel => exact ⟨k + 1, K2, by omega, by go_num, unhide HB2, unhide HS2 (unhide HD), unhide HD, unhide HP2⟩
        case measure => simp [intOf]; omega
    · have ek : k = q.nd := by omega
      subst ek
      have HST' : Hid (Stk wr base K' (L ++ q.ns) T M) := unhide HST
      have HDk' : Hid (DeclL (L ++ q.ns)) := unhide HDk
      have hts : ∀ j, j < q.nt → (q.kid j).Fit 1048576 := (unhide HF).1.2.2.2
      have HTS := hide hts
      have hnt := (unhide HF).1.2.2.1
      clear HST HDk hts hlt hk
      go_wp2
      go_loopw [24] (fun i ws => ∃ (j : Nat) (K2 : SK) (T' : List Lt), j ≤ q.nt ∧ i = .int .i64 j ∧ K2.B = K.B ∧ T'.length = T.length + j ∧ T.length + j ≤ 8 ∧ (∀ i, i < j → tsL (L ++ q.ns) (q.kid i) = 0) ∧ Stk ws base K2 (L ++ q.ns) T' M ∧ Stp K wb K2 ws) (fun i _ => q.nt - (intOf i).toNat)
      case atStart => exact ⟨0, K', T, by omega, rfl, hB, by omega, by omega, fun i hi => by omega, unhide HST', unhide HPk⟩
      case round =>
        clear HST' HPk y0 y1 bw hbr hB
        obtain ⟨j, K2, T', hj, rfl, hB, hTl, hT8, hok, hst, hP⟩ := hrel
        have HST := hide hst
        have HPk := hide hP
        have HOK := hide hok
        have bw := hP.below (unhide HUP) hbb
        have hbr : base ≤ wr.heap.size := Nat.le_trans hbb hP.size
        have y0 := hP.cell x0 (unhide Fx)
        have y1 := hP.cell x1 (unhide Fx)
        clear hst hP hok
        by_cases hjt : j < q.nt
        · rcases (unhide hin').2 with h0 | ⟨bt, ot, rfl, _, hbt, AD, CP, hd⟩
          · exact absurd (show q.nt = 0 from h0) (by omega)
          obtain ⟨h5, hcp, hi1⟩ := hd j hjt
          obtain ⟨f0, f1, f2, f3, f4⟩ := h5.keep (w' := wr) (fun o => bw.cell (p := ⟨bt, o, none⟩) (show bt < base by omega))
          have HI1 := hide (hi1.later (bw.mono (by omega)))
          have HFk := hide (unhide HTS j hjt)
          have HNo : Hid (¬ (T'.length ≠ 8 ∧ tsL (L ++ q.ns) (q.kid j) = 0) → ¬ FillP L T.length q) := fun hh hp => hh ⟨by have := hp.2.1; omega, hp.2.2 j hjt⟩
          have HYes : Hid (tsL (L ++ q.ns) (q.kid j) = 0 → ∀ i, i < j + 1 → tsL (L ++ q.ns) (q.kid i) = 0) := fun hh i hi => by
            by_cases e : i = j
            · subst e; exact hh
            · exact unhide HOK i (by omega)
          clear h5 hd hi1
          generalize q.kid j = t at *
          generalize AD j = ad at *
          generalize CP j = cpt at *
          obtain ⟨wx, hwx⟩ : ∃ v, v = wr.alloc (.cells #[.int .i64 t.op, .int .i64 t.a, .int .i64 t.b, .string t.s, .slice ad t.n cpt] 50) := ⟨_, rfl⟩
          have bx : Below wr.heap.size wr wx := by rw [hwx]; exact (Below.refl _ _).alloc (Nat.le_refl _) _
          have HWX := hide hwx
          have HSX := hide ((unhide HST).later bx)
          have HPX := hide ((unhide HPk).trans (Stp.of bx))
          have HIX := hide ((unhide HI1).later (bx.mono (by omega)))
          have hbx := Nat.le_trans hbr bx.size
          clear hwx bx
          go_wp2_with fail
          rw [← unhide HWX, ← hB]
          refine (assert_any hi wx base K2 (L ++ q.ns) T' M t ad cpt (unhide HSX) hM hM6 hbx hL (unhide HS) (by omega) (unhide HIX) (unhide HFk) (by omega)).mono ?_
          rintro e w2 ⟨rfl, K3, hB3, hP3, hS3⟩
          have HP3 := hide ((unhide HPX).trans hP3)
          have HS3 := hide hS3
          have HB3 : Hid (K3.B = K.B) := hB3.trans hB
          clear hS3 hP3 hB3 f0 f1 f2 f3 f4 y0 y1 HWX
          cases hv : (decide (T'.length ≠ 8) && (tsL (L ++ q.ns) t == 0))
          · have HN1 : Hid (¬ FillP L T.length q) := unhide HNo (fun hh => by simp [hh.1, hh.2] at hv)
            have HN2 := hide (fillB_no (unhide HN1))
            have HPf := hide ((unhide PB).trans (unhide HP3))
            go_wp2
            rw [unhide HN2]
            go_ret
            exact ⟨rfl, K3, unhide HB3, unhide HPf, fun hp => absurd hp (unhide HN1)⟩
          · simp only [Bool.and_eq_true, decide_eq_true_eq, beq_iff_eq] at hv
            have HY := hide (unhide HYes hv.2)
            have HSt := hide (unhide HS3 hv.1 hv.2)
            have h8 : T.length + (j + 1) ≤ 8 := by have := hv.1; omega
            have hv' : (decide (T'.length ≠ 8) && (tsL (L ++ q.ns) t == 0)) = true := by simp [hv.1, hv.2]
            clear hv
            go_wp2
            go_roundw
            case rel => exact ⟨j + 1, K3, _, by omega, by go_num, unhide HB3, by simp; omega, h8, unhide HY, unhide HSt, unhide HP3⟩
            case measure => simp [intOf]; omega
        · have ej : j = q.nt := by omega
          have HPf := hide ((unhide PB).trans (unhide HPk))
          have HFi : Hid (FillP L T.length q) := ⟨unhide HDk', by omega, by rw [← ej]; exact unhide HOK⟩
          have HN2 := hide (fillB_yes (unhide HFi))
          have HB3 := hide hB
          have HTl : Hid (T'.length = T.length + q.nt) := by show _ = _; omega
          go_wp2
          rw [unhide HN2]
          go_ret
          exact ⟨rfl, K2, unhide HB3, unhide HPf, fun _ => ⟨T', unhide HTl, unhide HST⟩⟩
end Go.Proofs.YtfopmobopmdahaaGreat
