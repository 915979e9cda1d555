/- Whether layers are one in all parts (CtxSame), of the model and of the program. -/
import Derived.Test.YtbcojkadfbpmgaaLyrA
import Derived.Test.YtbcojkadfbpmgaaSamA
import Derived.Test.YtbcojkadfbpmgaaSamC
import Derived.Laws.StructEq
namespace Go.Proofs.Ytbcojkadfbpmgaa
open Go.ChangeShapes Go.WideShapes Go.ChangeAt Go.RowKit Go.Joins
set_option linter.unusedVariables false

/-- Two names with their bits are the same. -/
def deq (s s' : ByteArray) (v v' : Int) : Bool := s.toList == s'.toList && v == v'
theorem deq_iff {s s' : ByteArray} {v v' : Int} : deq s s' v v' = true ↔ s.toList = s'.toList ∧ v = v' := by simp [deq]
theorem deq_no {s s' : ByteArray} {v v' : Int} : deq s s' v v' = false ↔ ¬ (s.toList = s'.toList ∧ v = v') := by
  rw [← deq_iff]; cases deq s s' v v' <;> simp
theorem eqDecl_neq (s s' : ByteArray) (v v' : Int) (w : World) : (binOp .neq 49 (.agg #[.string s, .int .i64 v]) (.agg #[.string s', .int .i64 v'])).run Try.prog w = .ok (.bool (!deq s s' v v')) w := by
  rw [run_neq_struct]
  have : (Op.equalIn 10000 49 (.agg #[.string s, .int .i64 v]) (.agg #[.string s', .int .i64 v'])).run Try.prog w = .ok (deq s s' v v') w := by
    show (Op.equalIn (9999 + 1) _ _ _).run _ w = _
    rw [run_equalIn_struct w 9999 _ _ _ (by kernel_rfl) (by kernel_rfl)]
    simp [go_sem]
    by_cases h1 : s.toList = s'.toList
    · by_cases h2 : v = v'
      · simp [deq, h1, h2]
      · simp [deq, h1, h2]
    · simp [deq, h1]
  rw [this]; rfl
/-- Two lists of names are one. -/
def DsP (n n' : Nat) (S S' : Nat → ByteArray) (V V' : Nat → Int) : Prop := n = n' ∧ ∀ i, i < n → (S i).toList = (S' i).toList ∧ V i = V' i
noncomputable def dsB (n n' : Nat) (S S' : Nat → ByteArray) (V V' : Nat → Int) : Bool := @decide (DsP n n' S S' V V') (Classical.propDecidable _)
theorem dsB_iff {n n' : Nat} {S S' : Nat → ByteArray} {V V' : Nat → Int} : dsB n n' S S' V V' = true ↔ DsP n n' S S' V V' := by simp [dsB]
theorem dsB_yes {n n' : Nat} {S S' : Nat → ByteArray} {V V' : Nat → Int} (h : DsP n n' S S' V V') : dsB n n' S S' V V' = true := dsB_iff.2 h
theorem dsB_no {n n' : Nat} {S S' : Nat → ByteArray} {V V' : Nat → Int} (h : ¬ DsP n n' S S' V V') : dsB n n' S S' V V' = false := by simpa [dsB] using h
/-- Two lists of terms are one. -/
def TsP (n n' : Nat) (T T' : Nat → TT) : Prop := n = n' ∧ ∀ i, i < n → (T i).Same (T' i)
noncomputable def tsB (n n' : Nat) (T T' : Nat → TT) : Bool := @decide (TsP n n' T T') (Classical.propDecidable _)
theorem tsB_iff {n n' : Nat} {T T' : Nat → TT} : tsB n n' T T' = true ↔ TsP n n' T T' := by simp [tsB]
theorem tsB_yes {n n' : Nat} {T T' : Nat → TT} (h : TsP n n' T T') : tsB n n' T T' = true := tsB_iff.2 h
theorem tsB_no {n n' : Nat} {T T' : Nat → TT} (h : ¬ TsP n n' T T') : tsB n n' T T' = false := by simpa [tsB] using h
/-- Two layers are one. -/
def Lyr.Same (q r : Lyr) : Prop := DsP q.nd r.nd q.S r.S q.V r.V ∧ TsP q.nt r.nt q.kid r.kid
noncomputable def lyB (q r : Lyr) : Bool := @decide (q.Same r) (Classical.propDecidable _)
theorem lyB_iff {q r : Lyr} : lyB q r = true ↔ q.Same r := by simp [lyB]
theorem lyB_yes {q r : Lyr} (h : q.Same r) : lyB q r = true := lyB_iff.2 h
theorem lyB_no {q r : Lyr} (h : ¬ q.Same r) : lyB q r = false := by simpa [lyB] using h
theorem lyB_and (q r : Lyr) : lyB q r = (dsB q.nd r.nd q.S r.S q.V r.V && tsB q.nt r.nt q.kid r.kid) := by
  rw [Bool.eq_iff_iff, Bool.and_eq_true, lyB_iff, dsB_iff, tsB_iff]; exact Iff.rfl
/-- Two lists of layers are one. -/
def LsP (n n' : Nat) (Q R : Nat → Lyr) : Prop := n = n' ∧ ∀ i, i < n → (Q i).Same (R i)
noncomputable def lsB (n n' : Nat) (Q R : Nat → Lyr) : Bool := @decide (LsP n n' Q R) (Classical.propDecidable _)
theorem lsB_yes {n n' : Nat} {Q R : Nat → Lyr} (h : LsP n n' Q R) : lsB n n' Q R = true := by simpa [lsB] using h
theorem lsB_no {n n' : Nat} {Q R : Nat → Lyr} (h : ¬ LsP n n' Q R) : lsB n n' Q R = false := by simpa [lsB] using h

set_option maxHeartbeats 8000000 in
theorem l10Same_any (hi : Nat) (q r : Lyr) (da ta da' ta' : Option Addr) (dc tc dc' tc' : Nat) (w : World) (hin : q.In w 0 hi da ta) (hin' : r.In w 0 hi da' ta') (hf : q.Low) (hg : r.Low) (hhi : hi ≤ w.heap.size) :
    Calls Try.prog 20 #[.agg #[.slice da q.nd dc, .slice ta q.nt tc], .agg #[.slice da' r.nd dc', .slice ta' r.nt tc']] w fun e w' => e = .returned (.bool (lyB q r)) ∧ Below w.heap.size w w' := by
  obtain ⟨nd, S, V, nt, kid⟩ := q
  obtain ⟨nd', S', V', nt', kid'⟩ := r
  simp only at *
  have SI := hide (lyB_and ⟨nd, S, V, nt, kid⟩ ⟨nd', S', V', nt', kid'⟩)
  generalize lyB ⟨nd, S, V, nt, kid⟩ ⟨nd', S', V', nt', kid'⟩ = ans at *
  simp only at SI
  have HF := hide hf
  have HI := hide hin
  have HI' := hide hin'
  clear hf hg hin hin'
  have hn : nd ≤ 1048576 := (unhide HF).1.1
  have hm : nt ≤ 1048576 := (unhide HF).1.2.2.1
  by_cases h1 : nd = nd'
  · subst h1
    have k1 : ((nd : Int) != (nd : Int)) = false := by simp
    by_cases h2 : nt = nt'
    · subst h2
      have k2 : ((nt : Int) != (nt : Int)) = false := by simp
      go_enter Try.func20, Try.ntmps20
      go_wp2
      have e1 : Below w.heap.size w ((w.alloc (.cells #[.slice da nd dc, .slice ta nt tc] 34)).alloc (.cells #[.slice da' nd dc', .slice ta' nt tc'] 34)) := ((Below.refl _ _).alloc (Nat.le_refl _) _).alloc (by simp) _
      obtain ⟨A1, hA1⟩ : ∃ x, x = w.heap.size := ⟨_, rfl⟩
      obtain ⟨A2, hA2⟩ : ∃ x, x = w.heap.size + 1 := ⟨_, rfl⟩
      rw [← hA2, ← hA1]
      have HA1 := hide hA1
      have HA2 := hide hA2
      clear hA1 hA2
      go_loopw [5] (fun i wr => ∃ k : Nat, k ≤ nd ∧ i = .int .i64 k ∧ (∀ j, j < k → (S j).toList = (S' j).toList ∧ V j = V' j) ∧ wr.cell? ⟨A1, 0, none⟩ = some (.slice da nd dc) ∧ wr.cell? ⟨A1, 1, none⟩ = some (.slice ta nt tc) ∧ wr.cell? ⟨A2, 0, none⟩ = some (.slice da' nd dc') ∧ wr.cell? ⟨A2, 1, none⟩ = some (.slice ta' nt tc') ∧ Below w.heap.size w wr) (fun i _ => nd - (intOf i).toNat)
      case atStart => exact ⟨0, by omega, rfl, fun j hj => by omega, by rw [unhide HA1]; simp [go_sem], by rw [unhide HA1]; simp [go_sem], by rw [unhide HA2]; simp [go_sem], by rw [unhide HA2]; simp [go_sem], e1⟩
      case round =>
        clear e1
        obtain ⟨k, hk, rfl, hsm, x0, x1, y0, y1, hbel⟩ := hrel
        have HK := hide hsm
        clear hsm
        by_cases hlt : k < nd
        · rcases (unhide HI).1 with h0 | ⟨bl, off, rfl, hlo, hbl, hd⟩
          · exact absurd (show nd = 0 from h0) (by omega)
          rcases (unhide HI').1 with h0 | ⟨bl', off', rfl, hlo', hbl', hd'⟩
          · exact absurd (show nd = 0 from h0) (by omega)
          obtain ⟨c0, c1⟩ := hd k hlt
          obtain ⟨e0, e1⟩ := hd' k hlt
          have d0 := (hbel.cell (p := ⟨bl, off + k * 2, none⟩) (Nat.lt_of_lt_of_le hbl hhi)).trans c0
          have d1 := (hbel.cell (p := ⟨bl, off + k * 2 + 1, none⟩) (Nat.lt_of_lt_of_le hbl hhi)).trans c1
          have g0 := (hbel.cell (p := ⟨bl', off' + k * 2, none⟩) (Nat.lt_of_lt_of_le hbl' hhi)).trans e0
          have g1 := (hbel.cell (p := ⟨bl', off' + k * 2 + 1, none⟩) (Nat.lt_of_lt_of_le hbl' hhi)).trans e1
          clear c0 c1 e0 e1 hd hd'
          have hne := eqDecl_neq (S k) (S' k) (V k) (V' k)
          by_cases he : (S k).toList = (S' k).toList ∧ V k = V' k
          · have HK1 : Hid (∀ j, j < k + 1 → (S j).toList = (S' j).toList ∧ V j = V' j) := fun j hj => by
              by_cases e : j = k
              · subst e; exact he
              · exact unhide HK j (by omega)
            rw [deq_iff.2 he] at hne
            clear he
            go_wp2
            go_region
            all_goals go_wp2
            all_goals go_roundw
            all_goals first | exact ⟨k + 1, by omega, by go_num, unhide HK1, (by exact x0), (by exact x1), (by exact y0), (by exact y1), (by first | exact hbel | exact hbel.drew)⟩ | (simp [intOf]; omega)
          · have HN : Hid (ans = false) := by
              show _ = _
              rw [unhide SI, dsB_no (fun h => he (h.2 k hlt))]; rfl
            rw [deq_no.2 he] at hne
            clear he
            go_wp2
            go_region
            all_goals go_wp2
            all_goals rw [unhide HN]
            all_goals go_ret
            all_goals exact ⟨rfl, (by first | exact hbel | exact hbel.drew)⟩
        · have e : k = nd := by omega
          subst e
          have SI2 : Hid (ans = tsB nt nt kid kid') := by
            show _ = _
            rw [unhide SI, dsB_yes ⟨rfl, unhide HK⟩, Bool.true_and]
          clear HK SI hlt hk
          go_wp2
          go_loopw [6] (fun i ws => ∃ m : Nat, m ≤ nt ∧ i = .int .i64 m ∧ (∀ j, j < m → (kid j).Same (kid' j)) ∧ ws.cell? ⟨A1, 0, none⟩ = some (.slice da k dc) ∧ ws.cell? ⟨A1, 1, none⟩ = some (.slice ta nt tc) ∧ ws.cell? ⟨A2, 0, none⟩ = some (.slice da' k dc') ∧ ws.cell? ⟨A2, 1, none⟩ = some (.slice ta' nt tc') ∧ Below w.heap.size w ws) (fun i _ => nt - (intOf i).toNat)
          case atStart => exact ⟨0, by omega, rfl, fun j hj => by omega, x0, x1, y0, y1, hbel⟩
          case round =>
            clear x0 x1 y0 y1 hbel
            obtain ⟨m, hmm, rfl, hsm, x0, x1, y0, y1, hbel⟩ := hrel
            have HK := hide hsm
            clear hsm
            by_cases hlt : m < nt
            · rcases (unhide HI).2 with h0 | ⟨bl, off, rfl, hlo, hbl, AD, CP, hd⟩
              · exact absurd (show nt = 0 from h0) (by omega)
              rcases (unhide HI').2 with h0 | ⟨bl', off', rfl, hlo', hbl', AD', CP', hd'⟩
              · exact absurd (show nt = 0 from h0) (by omega)
              obtain ⟨h5, hcp, hi1⟩ := hd m hlt
              obtain ⟨h5', hcp', hi2⟩ := hd' m hlt
              simp only at h5 hcp hi1 h5' hcp' hi2
              have c := h5.keep (w' := wr) (fun o => hbel.cell (p := ⟨bl, o, none⟩) (Nat.lt_of_lt_of_le hbl hhi))
              have d := h5'.keep (w' := wr) (fun o => hbel.cell (p := ⟨bl', o, none⟩) (Nat.lt_of_lt_of_le hbl' hhi))
              have H1 := hide (hi1.later (hbel.mono hhi))
              have H2 := hide (hi2.later (hbel.mono hhi))
              have lb := Nat.lt_of_lt_of_le (Nat.lt_of_lt_of_le hbl hhi) hbel.size
              have lb' := Nat.lt_of_lt_of_le (Nat.lt_of_lt_of_le hbl' hhi) hbel.size
              have hhr := Nat.le_trans hhi hbel.size
              have HFk := hide ((unhide HF).1.2.2.2 m hlt)
              have HNo : Hid (sameB (kid m) (kid' m) = false → ans = false) := fun h => by
                rw [unhide SI2]; exact tsB_no (fun h' => by have := sameB_yes (h'.2 m hlt); rw [h] at this; cases this)
              have HYes : Hid (sameB (kid m) (kid' m) = true → ∀ j, j < m + 1 → (kid j).Same (kid' j)) := fun h j hj => by
                by_cases e : j = m
                · subst e; exact (sameB_iff _ _).1 h
                · exact unhide HK j (by omega)
              clear hi1 hi2 h5 h5' hd hd'
              simp only at HFk
              generalize kid m = t at *
              generalize kid' m = u at *
              generalize AD m = ad at *
              generalize CP m = cp at *
              generalize AD' m = ad' at *
              generalize CP' m = cp' at *
              obtain ⟨c0, c1, c2, c3, c4⟩ := id c
              obtain ⟨d0, d1, d2, d3, d4⟩ := id d
              have la := World.block_lt_of_cell? _ _ x0
              have lb2 := World.block_lt_of_cell? _ _ y0
              cases hv : sameB t u
              · have HN := hide (unhide HNo hv)
                go_wp2
                go_region_held3 (fun w' => w'.cell? ⟨A1, 0, none⟩ = some (.slice da k dc) ∧ w'.cell? ⟨A1, 1, none⟩ = some (.slice (some ⟨bl, off, none⟩) nt tc) ∧ w'.cell? ⟨A2, 0, none⟩ = some (.slice da' k dc') ∧ w'.cell? ⟨A2, 1, none⟩ = some (.slice (some ⟨bl', off', none⟩) nt tc') ∧ w'.cell? ⟨bl, off + m * 5, none⟩ = some (.int .i64 t.op) ∧ w'.cell? ⟨bl, off + m * 5 + 1, none⟩ = some (.int .i64 t.a) ∧ w'.cell? ⟨bl, off + m * 5 + 2, none⟩ = some (.int .i64 t.b) ∧ w'.cell? ⟨bl, off + m * 5 + 3, none⟩ = some (.string t.s) ∧ w'.cell? ⟨bl, off + m * 5 + 4, none⟩ = some (.slice ad t.n cp) ∧ w'.cell? ⟨bl', off' + m * 5, none⟩ = some (.int .i64 u.op) ∧ w'.cell? ⟨bl', off' + m * 5 + 1, none⟩ = some (.int .i64 u.a) ∧ w'.cell? ⟨bl', off' + m * 5 + 2, none⟩ = some (.int .i64 u.b) ∧ w'.cell? ⟨bl', off' + m * 5 + 3, none⟩ = some (.string u.s) ∧ w'.cell? ⟨bl', off' + m * 5 + 4, none⟩ = some (.slice ad' u.n cp')) (first | go_keep | exact ⟨x0, x1, y0, y1, c.1, c.2.1, c.2.2.1, c.2.2.2.1, c.2.2.2.2, d.1, d.2.1, d.2.2.1, d.2.2.2.1, d.2.2.2.2⟩ | (refine ⟨?_, ?_, ?_, ?_, ?_, ?_, ?_, ?_, ?_, ?_, ?_, ?_, ?_, ?_⟩ <;> assumption))
                  (first | (go_at_call 29; refine (sSame_any hi t u _ _ _ _ _ (by first | exact unhide H1 | exact (unhide H1).drew) (by first | exact unhide H2 | exact (unhide H2).drew) (unhide HFk) (by exact hhr)).mono ?_; rintro e wq ⟨rfl, bq⟩; rw [hv]; have BL := (by first | exact hbel.trans (bq.mono hbel.size) | exact hbel.drew.trans (bq.mono hbel.size)); have x0 := cell_later bq (by exact x0); have x1 : wq.cell? ⟨A1, 1, none⟩ = some (.slice (some ⟨bl, off, none⟩) nt tc) := cell_later bq (by exact x1); have y0 := cell_later bq (by exact y0); have y1 : wq.cell? ⟨A2, 1, none⟩ = some (.slice (some ⟨bl', off', none⟩) nt tc') := cell_later bq (by exact y1); have c := c.keep (w' := wq) (fun o => bq.cell (p := ⟨bl, o, none⟩) lb); have d := d.keep (w' := wq) (fun o => bq.cell (p := ⟨bl', o, none⟩) lb'); obtain ⟨c0, c1, c2, c3, c4⟩ := id c; obtain ⟨d0, d1, d2, d3, d4⟩ := id d))
                all_goals go_wp2
                all_goals rw [unhide HN]
                all_goals go_ret
                all_goals exact ⟨rfl, (by first | exact BL | exact BL.drew)⟩
              · have HK1 := hide (unhide HYes hv)
                go_wp2
                go_region_held3 (fun w' => w'.cell? ⟨A1, 0, none⟩ = some (.slice da k dc) ∧ w'.cell? ⟨A1, 1, none⟩ = some (.slice (some ⟨bl, off, none⟩) nt tc) ∧ w'.cell? ⟨A2, 0, none⟩ = some (.slice da' k dc') ∧ w'.cell? ⟨A2, 1, none⟩ = some (.slice (some ⟨bl', off', none⟩) nt tc') ∧ w'.cell? ⟨bl, off + m * 5, none⟩ = some (.int .i64 t.op) ∧ w'.cell? ⟨bl, off + m * 5 + 1, none⟩ = some (.int .i64 t.a) ∧ w'.cell? ⟨bl, off + m * 5 + 2, none⟩ = some (.int .i64 t.b) ∧ w'.cell? ⟨bl, off + m * 5 + 3, none⟩ = some (.string t.s) ∧ w'.cell? ⟨bl, off + m * 5 + 4, none⟩ = some (.slice ad t.n cp) ∧ w'.cell? ⟨bl', off' + m * 5, none⟩ = some (.int .i64 u.op) ∧ w'.cell? ⟨bl', off' + m * 5 + 1, none⟩ = some (.int .i64 u.a) ∧ w'.cell? ⟨bl', off' + m * 5 + 2, none⟩ = some (.int .i64 u.b) ∧ w'.cell? ⟨bl', off' + m * 5 + 3, none⟩ = some (.string u.s) ∧ w'.cell? ⟨bl', off' + m * 5 + 4, none⟩ = some (.slice ad' u.n cp')) (first | go_keep | exact ⟨x0, x1, y0, y1, c.1, c.2.1, c.2.2.1, c.2.2.2.1, c.2.2.2.2, d.1, d.2.1, d.2.2.1, d.2.2.2.1, d.2.2.2.2⟩ | (refine ⟨?_, ?_, ?_, ?_, ?_, ?_, ?_, ?_, ?_, ?_, ?_, ?_, ?_, ?_⟩ <;> assumption))
                  (first | (go_at_call 29; refine (sSame_any hi t u _ _ _ _ _ (by first | exact unhide H1 | exact (unhide H1).drew) (by first | exact unhide H2 | exact (unhide H2).drew) (unhide HFk) (by exact hhr)).mono ?_; rintro e wq ⟨rfl, bq⟩; rw [hv]; have BL := (by first | exact hbel.trans (bq.mono hbel.size) | exact hbel.drew.trans (bq.mono hbel.size)); have x0 := cell_later bq (by exact x0); have x1 : wq.cell? ⟨A1, 1, none⟩ = some (.slice (some ⟨bl, off, none⟩) nt tc) := cell_later bq (by exact x1); have y0 := cell_later bq (by exact y0); have y1 : wq.cell? ⟨A2, 1, none⟩ = some (.slice (some ⟨bl', off', none⟩) nt tc') := cell_later bq (by exact y1); have c := c.keep (w' := wq) (fun o => bq.cell (p := ⟨bl, o, none⟩) lb); have d := d.keep (w' := wq) (fun o => bq.cell (p := ⟨bl', o, none⟩) lb'); obtain ⟨c0, c1, c2, c3, c4⟩ := id c; obtain ⟨d0, d1, d2, d3, d4⟩ := id d))
                all_goals go_wp2
                all_goals go_roundw
                all_goals first | exact ⟨m + 1, by omega, by go_num, unhide HK1, (by exact x0), (by exact x1), (by exact y0), (by exact y1), (by first | exact BL | exact BL.drew)⟩ | (simp [intOf]; omega)
            · have e : m = nt := by omega
              subst e
              have HN : Hid (ans = true) := by show _ = _; rw [unhide SI2]; exact tsB_yes ⟨rfl, unhide HK⟩
              go_wp2
              rw [unhide HN]
              go_ret
              exact ⟨rfl, hbel⟩
    · have k2 : ((nt : Int) != (nt' : Int)) = true := by simp; omega
      have HN : Hid (ans = false) := by show _ = _; rw [unhide SI, tsB_no (fun h => h2 h.1), Bool.and_false]
      go_enter Try.func20, Try.ntmps20
      go_wp2
      rw [unhide HN]
      go_ret
      exact ⟨rfl, (by repeat (first | exact Below.refl _ _ | assumption | refine below_drewN ?_ _ | refine Below.drew ?_ | refine Below.alloc ?_ (by first | exact Nat.le_refl _ | exact Below.size (by assumption) | (simp; done) | (simp; omega)) _ | refine Below.setCell ?_ (by first | exact Nat.le_refl _ | exact Below.size (by assumption) | (simp; done) | (simp; omega)) _ | refine Below.trans ?_ (by assumption)))⟩
  · have k1 : ((nd : Int) != (nd' : Int)) = true := by simp; omega
    have HN : Hid (ans = false) := by show _ = _; rw [unhide SI, dsB_no (fun h => h1 h.1), Bool.false_and]
    go_enter Try.func20, Try.ntmps20
    go_wp2
    rw [unhide HN]
    go_ret
    exact ⟨rfl, (by repeat (first | exact Below.refl _ _ | assumption | refine below_drewN ?_ _ | refine Below.drew ?_ | refine Below.alloc ?_ (by first | exact Nat.le_refl _ | exact Below.size (by assumption) | (simp; done) | (simp; omega)) _ | refine Below.setCell ?_ (by first | exact Nat.le_refl _ | exact Below.size (by assumption) | (simp; done) | (simp; omega)) _ | refine Below.trans ?_ (by assumption)))⟩
set_option maxHeartbeats 4000000 in
theorem sCtxSame_any (hi : Nat) (a c : Option Addr) (n n' cap cap' : Nat) (Q R : Nat → Lyr) (w : World) (hd : LaysIn w 0 hi a n Q) (hd' : LaysIn w 0 hi c n' R) (hf : ∀ i, i < n → (Q i).Low) (hg : ∀ i, i < n' → (R i).Low) (hn : n ≤ 1048576) (hn' : n' ≤ 1048576) (hhi : hi ≤ w.heap.size) :
    Calls Try.prog 11 #[.slice a n cap, .slice c n' cap'] w fun e w' => e = .returned (.bool (lsB n n' Q R)) ∧ Below w.heap.size w w' := by
  have HF := hide hf
  have HG := hide hg
  have HD := hide hd
  have HE := hide hd'
  clear hf hg hd hd'
  by_cases hnn : n = n'
  · subst hnn
    have kb1 : ((n : Int) != (n : Int)) = false := by simp
    go_enter Try.func11, Try.ntmps11
    go_wp2
    go_loopw [5] (fun i wr => ∃ k : Nat, k ≤ n ∧ i = .int .i64 k ∧ (∀ j, j < k → (Q j).Same (R j)) ∧ Below w.heap.size w wr) (fun i _ => n - (intOf i).toNat)
    case atStart => exact ⟨0, by omega, rfl, fun j hj => by omega, (by repeat (first | exact Below.refl _ _ | assumption | refine below_drewN ?_ _ | refine Below.drew ?_ | refine Below.alloc ?_ (by first | exact Nat.le_refl _ | exact Below.size (by assumption) | (simp; done) | (simp; omega)) _ | refine Below.setCell ?_ (by first | exact Nat.le_refl _ | exact Below.size (by assumption) | (simp; done) | (simp; omega)) _ | refine Below.trans ?_ (by assumption)))⟩
    case round =>
      obtain ⟨k, hk, rfl, hok, hbel⟩ := hrel
      have HK := hide hok
      clear hok
      by_cases hlt : k < n
      · rcases unhide HD with h0 | ⟨bl, off, rfl, hlo, hbl, DA, TA, DC, TC, hd⟩
        · omega
        rcases unhide HE with h0 | ⟨bl', off', rfl, hlo', hbl', DA', TA', DC', TC', hd'⟩
        · omega
        obtain ⟨h2, hcp, hin⟩ := hd k hlt
        obtain ⟨h2', hcp', hin'⟩ := hd' k hlt
        have c := h2.keep (w' := wr) (fun o => hbel.cell (p := ⟨bl, o, none⟩) (Nat.lt_of_lt_of_le hbl hhi))
        have d := h2'.keep (w' := wr) (fun o => hbel.cell (p := ⟨bl', o, none⟩) (Nat.lt_of_lt_of_le hbl' hhi))
        have H1 := hide (hin.later (hbel.mono hhi))
        have H2 := hide (hin'.later (hbel.mono hhi))
        have HFk := hide (unhide HF k hlt)
        have HGk := hide (unhide HG k hlt)
        have lb := Nat.lt_of_lt_of_le (Nat.lt_of_lt_of_le hbl hhi) hbel.size
        have lb' := Nat.lt_of_lt_of_le (Nat.lt_of_lt_of_le hbl' hhi) hbel.size
        have hhr := Nat.le_trans hhi hbel.size
        have HV : Hid (∀ x, lyB (Q k) (R k) = x → lyB (Q k) (R k) = x) := fun _ h => h
        have HNo : Hid (lyB (Q k) (R k) = false → lsB n n Q R = false) := fun h => lsB_no (fun h' => by have := lyB_yes (h'.2 k hlt); rw [h] at this; cases this)
        have HYes : Hid (lyB (Q k) (R k) = true → ∀ j, j < k + 1 → (Q j).Same (R j)) := fun h j hj => by
          by_cases e : j = k
          · subst e; exact lyB_iff.1 h
          · exact unhide HK j (by omega)
        clear hin hin' h2 h2' hd hd'
        generalize Q k = q at *
        generalize R k = r at *
        generalize DA k = da at *
        generalize TA k = ta at *
        generalize DC k = dc at *
        generalize TC k = tc at *
        generalize DA' k = da' at *
        generalize TA' k = ta' at *
        generalize DC' k = dc' at *
        generalize TC' k = tc' at *
        obtain ⟨c0, c1⟩ := id c
        obtain ⟨d0, d1⟩ := id d
        cases hv : lyB q r
        · have HN := hide (unhide HNo hv)
          go_wp2
          go_region_held3 (fun w' => w'.cell? ⟨bl, off + k * 2, none⟩ = some (.slice da q.nd dc) ∧ w'.cell? ⟨bl, off + k * 2 + 1, none⟩ = some (.slice ta q.nt tc) ∧ w'.cell? ⟨bl', off' + k * 2, none⟩ = some (.slice da' r.nd dc') ∧ w'.cell? ⟨bl', off' + k * 2 + 1, none⟩ = some (.slice ta' r.nt tc')) (first | go_keep | exact ⟨c.1, c.2, d.1, d.2⟩)
            (first | (go_at_call 20; refine (l10Same_any hi q r _ _ _ _ _ _ _ _ _ (by first | exact unhide H1 | exact (unhide H1).keep (fun _ _ _ _ => rfl)) (by first | exact unhide H2 | exact (unhide H2).keep (fun _ _ _ _ => rfl)) (unhide HFk) (unhide HGk) (by exact hhr)).mono ?_; rintro e wq ⟨rfl, bq⟩; have BL := (by first | exact hbel.trans (bq.mono hbel.size) | exact hbel.drew.trans (bq.mono hbel.size)); have c := c.keep (w' := wq) (fun o => bq.cell (p := ⟨bl, o, none⟩) lb); have d := d.keep (w' := wq) (fun o => bq.cell (p := ⟨bl', o, none⟩) lb'); rw [hv]))
          all_goals go_wp2
          all_goals rw [unhide HN]
          all_goals go_ret
          all_goals exact ⟨rfl, (by first | exact BL | exact BL.drew)⟩
        · have HK1 := hide (unhide HYes hv)
          go_wp2
          go_region_held3 (fun w' => w'.cell? ⟨bl, off + k * 2, none⟩ = some (.slice da q.nd dc) ∧ w'.cell? ⟨bl, off + k * 2 + 1, none⟩ = some (.slice ta q.nt tc) ∧ w'.cell? ⟨bl', off' + k * 2, none⟩ = some (.slice da' r.nd dc') ∧ w'.cell? ⟨bl', off' + k * 2 + 1, none⟩ = some (.slice ta' r.nt tc')) (first | go_keep | exact ⟨c.1, c.2, d.1, d.2⟩)
            (first | (go_at_call 20; refine (l10Same_any hi q r _ _ _ _ _ _ _ _ _ (by first | exact unhide H1 | exact (unhide H1).keep (fun _ _ _ _ => rfl)) (by first | exact unhide H2 | exact (unhide H2).keep (fun _ _ _ _ => rfl)) (unhide HFk) (unhide HGk) (by exact hhr)).mono ?_; rintro e wq ⟨rfl, bq⟩; have BL := (by first | exact hbel.trans (bq.mono hbel.size) | exact hbel.drew.trans (bq.mono hbel.size)); have c := c.keep (w' := wq) (fun o => bq.cell (p := ⟨bl, o, none⟩) lb); have d := d.keep (w' := wq) (fun o => bq.cell (p := ⟨bl', o, none⟩) lb'); rw [hv]))
          all_goals go_wp2
          all_goals go_roundw
          all_goals first | exact ⟨k + 1, by omega, by go_num, unhide HK1, (by first | exact BL | exact BL.drew)⟩ | (simp [intOf]; omega)
      · have e : k = n := by omega
        subst e
        have HN := hide (lsB_yes (n := k) (n' := k) (Q := Q) (R := R) ⟨rfl, unhide HK⟩)
        go_wp2
        rw [unhide HN]
        go_ret
        exact ⟨rfl, hbel⟩
  · have HN := hide (lsB_no (n := n) (n' := n') (Q := Q) (R := R) (fun h => hnn h.1))
    have kb : ((n : Int) != (n' : Int)) = true := by simp; omega
    go_enter Try.func11, Try.ntmps11
    go_wp2
    rw [unhide HN]
    go_ret
    exact ⟨rfl, (by repeat (first | exact Below.refl _ _ | assumption | refine below_drewN ?_ _ | refine Below.drew ?_ | refine Below.alloc ?_ (by first | exact Nat.le_refl _ | exact Below.size (by assumption) | (simp; done) | (simp; omega)) _ | refine Below.setCell ?_ (by first | exact Nat.le_refl _ | exact Below.size (by assumption) | (simp; done) | (simp; omega)) _ | refine Below.trans ?_ (by assumption)))⟩
end Go.Proofs.Ytbcojkadfbpmgaa
