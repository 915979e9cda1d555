/- Whether layers are one in all parts (CtxSame), of the program. -/
import Derived.Test.YtbcojkadfbpmgaaLyrS
namespace Go.Proofs.Ytbcojkadfbpmgaa
open Go.ChangeShapes Go.WideShapes Go.ChangeAt Go.RowKit Go.Joins
set_option linter.unusedVariables false

set_option maxHeartbeats 2000000 in
theorem equalDs_any (hi : Nat) (a c : Option Addr) (n n' cap cap' : Nat) (S S' : Nat → ByteArray) (V V' : Nat → Int) (w : World) (hd : DecsIn w 0 hi a n S V) (hd' : DecsIn w 0 hi c n' S' V') (hn : n ≤ 1048576) (hn' : n' ≤ 1048576) (hhi : hi ≤ w.heap.size) :
    Calls Try.prog 32 #[.slice a n cap, .slice c n' cap'] w fun e w' => e = .returned (.bool (dsB n n' S S' V V')) ∧ Below w.heap.size w w' := by
  have HD := hide hd
  have HE := hide hd'
  clear hd hd'
  by_cases hnn : n = n'
  · subst hnn
    have kb0 : ((n : Int) != (n : Int)) = false := by simp
    go_enter Try.func32, Try.ntmps32
    go_wp2
    go_loopw [13] (fun i wr => ∃ k : Nat, k ≤ n ∧ i = .int .i64 k ∧ (∀ j, j < k → (S j).toList = (S' j).toList ∧ V j = V' j) ∧ Below w.heap.size w wr) (fun i _ => n - (intOf i).toNat)
    case atStart => exact ⟨0, by omega, rfl, fun j hj => by omega, (by repeat (first | exact Below.refl _ _ | assumption | refine below_drewN ?_ _ | refine Below.drew ?_ | refine Below.alloc ?_ (by first | exact Nat.le_refl _ | exact Below.size (by assumption) | (simp; done) | (simp; omega)) _ | refine Below.setCell ?_ (by first | exact Nat.le_refl _ | exact Below.size (by assumption) | (simp; done) | (simp; omega)) _ | refine Below.trans ?_ (by assumption)))⟩
    case round =>
      obtain ⟨k, hk, rfl, hok, hbel⟩ := hrel
      have HK := hide hok
      clear hok
      by_cases hlt : k < n
      · rcases unhide HD with h0 | ⟨bl, off, rfl, hlo, hbl, hd⟩
        · omega
        rcases unhide HE with h0 | ⟨bl', off', rfl, hlo', hbl', hd'⟩
        · omega
        obtain ⟨c0, c1⟩ := hd k hlt
        obtain ⟨e0, e1⟩ := hd' k hlt
        have d0 := (hbel.cell (p := ⟨bl, off + k * 2, none⟩) (Nat.lt_of_lt_of_le hbl hhi)).trans c0
        have d1 := (hbel.cell (p := ⟨bl, off + k * 2 + 1, none⟩) (Nat.lt_of_lt_of_le hbl hhi)).trans c1
        have g0 := (hbel.cell (p := ⟨bl', off' + k * 2, none⟩) (Nat.lt_of_lt_of_le hbl' hhi)).trans e0
        have g1 := (hbel.cell (p := ⟨bl', off' + k * 2 + 1, none⟩) (Nat.lt_of_lt_of_le hbl' hhi)).trans e1
        clear c0 c1 e0 e1 hd hd'
        have hne := eqDecl_neq (S k) (S' k) (V k) (V' k)
        by_cases he : (S k).toList = (S' k).toList ∧ V k = V' k
        · have HK1 : Hid (∀ j, j < k + 1 → (S j).toList = (S' j).toList ∧ V j = V' j) := fun j hj => by
            by_cases e : j = k
            · subst e; exact he
            · exact unhide HK j (by omega)
          rw [deq_iff.2 he] at hne
          clear he
          go_wp2
          go_region
          all_goals go_wp2
          all_goals go_roundw
          all_goals first | exact ⟨k + 1, by omega, by go_num, unhide HK1, (by first | exact hbel | exact hbel.drew)⟩ | (simp [intOf]; omega)
        · have HN := hide (dsB_no (n := n) (n' := n) (S := S) (S' := S') (V := V) (V' := V') (fun h => he (h.2 k hlt)))
          rw [deq_no.2 he] at hne
          clear he
          go_wp2
          go_region
          all_goals go_wp2
          all_goals rw [unhide HN]
          all_goals go_ret
          all_goals exact ⟨rfl, (by first | exact hbel | exact hbel.drew)⟩
      · have e : k = n := by omega
        subst e
        have HN := hide (dsB_yes (n := k) (n' := k) (S := S) (S' := S') (V := V) (V' := V') ⟨rfl, unhide HK⟩)
        go_wp2
        rw [unhide HN]
        go_ret
        exact ⟨rfl, hbel⟩
  · have HN := hide (dsB_no (n := n) (n' := n') (S := S) (S' := S') (V := V) (V' := V') (fun h => hnn h.1))
    have kb : ((n : Int) != (n' : Int)) = true := by simp; omega
    go_enter Try.func32, Try.ntmps32
    go_wp2
    rw [unhide HN]
    go_ret
    exact ⟨rfl, (by repeat (first | exact Below.refl _ _ | assumption | refine below_drewN ?_ _ | refine Below.drew ?_ | refine Below.alloc ?_ (by first | exact Nat.le_refl _ | exact Below.size (by assumption) | (simp; done) | (simp; omega)) _ | refine Below.setCell ?_ (by first | exact Nat.le_refl _ | exact Below.size (by assumption) | (simp; done) | (simp; omega)) _ | refine Below.trans ?_ (by assumption)))⟩
set_option maxHeartbeats 4000000 in
theorem equalTs_any (lo hi : Nat) (n n' : Nat) (T T' : Nat → TT) (op op' a a' b b' : Int) (s s' : ByteArray) (ta ta' : Option Addr) (tc tc' : Nat) (w : World) (hin : (TT.node op a b s n T).In w lo hi ta) (hin' : (TT.node op' a' b' s' n' T').In w lo hi ta') (hf : ∀ i, i < n → (T i).Fit 1048576 ∧ (T i).N ≤ 1048577) (hn : n ≤ 1048576) (hn' : n' ≤ 1048576) (hp : Pl w lo hi) (hlohi : lo ≤ hi) (hhi : hi ≤ w.heap.size) :
    Calls Try.prog 33 #[.slice ta n tc, .slice ta' n' tc', .func (.func 34) #[] #[]] w fun e w' => e = .returned (.bool (tsB n n' T T')) ∧ Below w.heap.size w w' := by
  have HD := hide hin
  have HE := hide hin'
  have HF := hide hf
  have HP := hide hp
  clear hin hin' hf hp
  by_cases hnn : n = n'
  · subst hnn
    have kb1 : ((n : Int) != (n : Int)) = false := by simp
    go_enter Try.func33, Try.ntmps33
    go_wp2
    go_loopw [17] (fun i wr => ∃ k : Nat, k ≤ n ∧ i = .int .i64 k ∧ (∀ j, j < k → (T j).Same (T' j)) ∧ Below w.heap.size w wr) (fun i _ => n - (intOf i).toNat)
    case atStart => exact ⟨0, by omega, rfl, fun j hj => by omega, (by repeat (first | exact Below.refl _ _ | assumption | refine below_drewN ?_ _ | refine Below.drew ?_ | refine Below.alloc ?_ (by first | exact Nat.le_refl _ | exact Below.size (by assumption) | (simp; done) | (simp; omega)) _ | refine Below.setCell ?_ (by first | exact Nat.le_refl _ | exact Below.size (by assumption) | (simp; done) | (simp; omega)) _ | refine Below.trans ?_ (by assumption)))⟩
    case round =>
      obtain ⟨k, hk, rfl, hok, hbel⟩ := hrel
      have HK := hide hok
      clear hok
      by_cases hlt : k < n
      · rcases unhide HD with h0 | ⟨bl, off, rfl, hlo, hbl, AD, CP, hd⟩
        · omega
        rcases unhide HE with h0 | ⟨bl', off', rfl, hlo', hbl', AD', CP', hd'⟩
        · omega
        obtain ⟨h5, hcp, hi1⟩ := hd k hlt
        obtain ⟨h5', hcp', hi2⟩ := hd' k hlt
        have c := h5.keep (w' := wr) (fun o => hbel.cell (p := ⟨bl, o, none⟩) (Nat.lt_of_lt_of_le hbl hhi))
        have d := h5'.keep (w' := wr) (fun o => hbel.cell (p := ⟨bl', o, none⟩) (Nat.lt_of_lt_of_le hbl' hhi))
        have H1 := hide (hi1.later (hbel.mono hhi))
        have H2 := hide (hi2.later (hbel.mono hhi))
        have HPk := hide ((unhide HP).later (hbel.mono hhi))
        have hhr := Nat.le_trans hhi hbel.size
        have lb := Nat.lt_of_lt_of_le (Nat.lt_of_lt_of_le hbl hhi) hbel.size
        have lb' := Nat.lt_of_lt_of_le (Nat.lt_of_lt_of_le hbl' hhi) hbel.size
        have HFk := hide ((unhide HF) k hlt).1
        have hNk := ((unhide HF) k hlt).2
        have HNo : Hid (sameB (T k) (T' k) = false → tsB n n T T' = false) := fun h => tsB_no (fun h' => by have := sameB_yes (h'.2 k hlt); rw [h] at this; cases this)
        have HYes : Hid (sameB (T k) (T' k) = true → ∀ j, j < k + 1 → (T j).Same (T' j)) := fun h j hj => by
          by_cases e : j = k
          · subst e; exact (sameB_iff _ _).1 h
          · exact unhide HK j (by omega)
        clear hi1 hi2 h5 h5' hd hd'
        generalize T k = t at *
        generalize T' k = u at *
        generalize AD k = ad at *
        generalize CP k = cp at *
        generalize AD' k = ad' at *
        generalize CP' k = cp' at *
        obtain ⟨c0, c1, c2, c3, c4⟩ := id c
        obtain ⟨d0, d1, d2, d3, d4⟩ := id d
        cases hv : sameB t u
        · have HN := hide (unhide HNo hv)
          go_wp2_with fail
          have hb0 : Below w.heap.size w ((wr.alloc (.cells #[.int .i64 t.op, .int .i64 t.a, .int .i64 t.b, .string t.s, .slice ad t.n cp] 51)).alloc (.cells #[.int .i64 u.op, .int .i64 u.a, .int .i64 u.b, .string u.s, .slice ad' u.n cp'] 51)) := (hbel.alloc hbel.size _).alloc (by have := hbel.size; simp; omega) _
          have hb1 : Below wr.heap.size wr ((wr.alloc (.cells #[.int .i64 t.op, .int .i64 t.a, .int .i64 t.b, .string t.s, .slice ad t.n cp] 51)).alloc (.cells #[.int .i64 u.op, .int .i64 u.a, .int .i64 u.b, .string u.s, .slice ad' u.n cp'] 51)) := ((Below.refl _ _).alloc (Nat.le_refl _) _).alloc (by simp) _
          refine (iSame_any lo hi t u _ _ _ _ _ ((unhide H1).later (hb1.mono hhr)) ((unhide H2).later (hb1.mono hhr)) hcp hcp' ((unhide HPk).later (hb1.mono hhr)) (by simp; omega) hlohi (unhide HFk) hNk).mono ?_
          rintro e wq ⟨rfl, bq⟩
          have BL := hb0.trans (bq.mono hb0.size)
          rw [hv]
          clear bq hb0 hb1
          go_wp2
          rw [unhide HN]
          go_ret
          exact ⟨rfl, BL⟩
        · have HK1 := hide (unhide HYes hv)
          go_wp2_with fail
          have hb0 : Below w.heap.size w ((wr.alloc (.cells #[.int .i64 t.op, .int .i64 t.a, .int .i64 t.b, .string t.s, .slice ad t.n cp] 51)).alloc (.cells #[.int .i64 u.op, .int .i64 u.a, .int .i64 u.b, .string u.s, .slice ad' u.n cp'] 51)) := (hbel.alloc hbel.size _).alloc (by have := hbel.size; simp; omega) _
          have hb1 : Below wr.heap.size wr ((wr.alloc (.cells #[.int .i64 t.op, .int .i64 t.a, .int .i64 t.b, .string t.s, .slice ad t.n cp] 51)).alloc (.cells #[.int .i64 u.op, .int .i64 u.a, .int .i64 u.b, .string u.s, .slice ad' u.n cp'] 51)) := ((Below.refl _ _).alloc (Nat.le_refl _) _).alloc (by simp) _
          refine (iSame_any lo hi t u _ _ _ _ _ ((unhide H1).later (hb1.mono hhr)) ((unhide H2).later (hb1.mono hhr)) hcp hcp' ((unhide HPk).later (hb1.mono hhr)) (by simp; omega) hlohi (unhide HFk) hNk).mono ?_
          rintro e wq ⟨rfl, bq⟩
          have BL := hb0.trans (bq.mono hb0.size)
          rw [hv]
          clear bq hb0 hb1
          go_wp2
          go_roundw
          case rel => exact ⟨k + 1, by omega, by go_num, unhide HK1, BL⟩
          case measure => simp [intOf]; omega
      · have e : k = n := by omega
        subst e
        have HN := hide (tsB_yes (n := k) (n' := k) (T := T) (T' := T') ⟨rfl, unhide HK⟩)
        go_wp2
        rw [unhide HN]
        go_ret
        exact ⟨rfl, hbel⟩
  · have HN := hide (tsB_no (n := n) (n' := n') (T := T) (T' := T') (fun h => hnn h.1))
    have kb : ((n : Int) != (n' : Int)) = true := by simp; omega
    go_enter Try.func33, Try.ntmps33
    go_wp2
    rw [unhide HN]
    go_ret
    exact ⟨rfl, (by repeat (first | exact Below.refl _ _ | assumption | refine below_drewN ?_ _ | refine Below.drew ?_ | refine Below.alloc ?_ (by first | exact Nat.le_refl _ | exact Below.size (by assumption) | (simp; done) | (simp; omega)) _ | refine Below.setCell ?_ (by first | exact Nat.le_refl _ | exact Below.size (by assumption) | (simp; done) | (simp; omega)) _ | refine Below.trans ?_ (by assumption)))⟩
set_option maxHeartbeats 2000000 in
theorem layerSame_any (lo hi : Nat) (q r : Lyr) (da ta da' ta' : Option Addr) (dc tc dc' tc' : Nat) (w : World) (hin : q.In w lo hi da ta) (hin' : r.In w lo hi da' ta') (hf : q.Low) (hg : r.Low) (hhi : hi ≤ w.heap.size) (hp : Pl w lo hi) (hlohi : lo ≤ hi) :
    Calls Try.prog 23 #[.agg #[.slice da q.nd dc, .slice ta q.nt tc], .agg #[.slice da' r.nd dc', .slice ta' r.nt tc']] w fun e w' => e = .returned (.bool (lyB q r)) ∧ Below w.heap.size w w' := by
  have hLY := hide (lyB_and q r)
  obtain ⟨⟨f1, f2, f3, f4⟩, f5⟩ := hf
  obtain ⟨⟨g1, g2, g3, g4⟩, g5⟩ := hg
  go_enter Try.func23, Try.ntmps23
  go_wp2_with fail
  have e1 : Below w.heap.size w ((w.alloc (.cells #[.slice da q.nd dc, .slice ta q.nt tc] 34)).alloc (.cells #[.slice da' r.nd dc', .slice ta' r.nt tc'] 34)) := ((Below.refl _ _).alloc (Nat.le_refl _) _).alloc (by simp) _
  refine (equalDs_any hi da da' q.nd r.nd dc dc' q.S r.S q.V r.V _ ((hin.wide (Nat.zero_le _) (Nat.le_refl _)).later (e1.mono hhi)).1 ((hin'.wide (Nat.zero_le _) (Nat.le_refl _)).later (e1.mono hhi)).1 f1 g1 (by simp; omega)).mono ?_
  rintro e w1 ⟨rfl, b1⟩
  have p0 : w1.cell? ⟨w.heap.size, 1, none⟩ = some (.slice ta q.nt tc) := cell_later b1 (by simp [go_sem])
  have p1 : w1.cell? ⟨w.heap.size + 1, 1, none⟩ = some (.slice ta' r.nt tc') := cell_later b1 (by simp [go_sem])
  have BL := e1.trans (b1.mono (by simp <;> omega))
  have IN := hide (hin.2.later (BL.mono hhi))
  have IN' := hide (hin'.2.later (BL.mono hhi))
  have HP := hide (hp.later (BL.mono hhi))
  have hh1 := Nat.le_trans hhi BL.size
  have HF : Hid (∀ i, i < q.nt → (q.kid i).Fit 1048576 ∧ (q.kid i).N ≤ 1048577) := fun i hi => ⟨f4 i hi, f5 i hi⟩
  clear e1 b1 hin hin' f2 f4 f5 g2 g4 g5 hp
  cases hd : dsB q.nd r.nd q.S r.S q.V r.V
  · have HN : Hid (lyB q r = false) := by show _ = _; rw [unhide hLY, hd, Bool.false_and]
    go_wp2
    rw [unhide HN]
    go_ret
    exact ⟨rfl, BL⟩
  · have HN : Hid (lyB q r = tsB q.nt r.nt q.kid r.kid) := by show _ = _; rw [unhide hLY, hd, Bool.true_and]
    go_wp2_with fail
    refine (equalTs_any lo hi q.nt r.nt q.kid r.kid 0 0 0 0 0 0 ByteArray.empty ByteArray.empty ta ta' tc tc' w1 (unhide IN) (unhide IN') (unhide HF) f3 g3 (unhide HP) hlohi hh1).mono ?_
    rintro e w2 ⟨rfl, b2⟩
    rw [← unhide HN]
    replace BL := BL.trans (b2.mono BL.size)
    clear b2
    go_wp2
    go_ret
    exact ⟨rfl, BL⟩
set_option maxHeartbeats 4000000 in
theorem equalLs_any (lo hi : Nat) (a c : Option Addr) (n n' cap cap' : Nat) (Q R : Nat → Lyr) (w : World) (hd : LaysIn w lo hi a n Q) (hd' : LaysIn w lo hi c n' R) (hf : ∀ i, i < n → (Q i).Low) (hg : ∀ i, i < n' → (R i).Low) (hn : n ≤ 1048576) (hn' : n' ≤ 1048576) (hhi : hi ≤ w.heap.size) (hp : Pl w lo hi) (hlohi : lo ≤ hi) :
    Calls Try.prog 22 #[.slice a n cap, .slice c n' cap', .func (.func 23) #[] #[]] w fun e w' => e = .returned (.bool (lsB n n' Q R)) ∧ Below w.heap.size w w' := by
  have HF := hide hf
  have HG := hide hg
  have HD := hide hd
  have HE := hide hd'
  have HP := hide hp
  clear hf hg hd hd' hp
  by_cases hnn : n = n'
  · subst hnn
    have kb1 : ((n : Int) != (n : Int)) = false := by simp
    go_enter Try.func22, Try.ntmps22
    go_wp2
    go_loopw [17] (fun i wr => ∃ k : Nat, k ≤ n ∧ i = .int .i64 k ∧ (∀ j, j < k → (Q j).Same (R j)) ∧ Below w.heap.size w wr) (fun i _ => n - (intOf i).toNat)
    case atStart => exact ⟨0, by omega, rfl, fun j hj => by omega, (by repeat (first | exact Below.refl _ _ | assumption | refine below_drewN ?_ _ | refine Below.drew ?_ | refine Below.alloc ?_ (by first | exact Nat.le_refl _ | exact Below.size (by assumption) | (simp; done) | (simp; omega)) _ | refine Below.setCell ?_ (by first | exact Nat.le_refl _ | exact Below.size (by assumption) | (simp; done) | (simp; omega)) _ | refine Below.trans ?_ (by assumption)))⟩
    case round =>
      obtain ⟨k, hk, rfl, hok, hbel⟩ := hrel
      have HK := hide hok
      clear hok
      by_cases hlt : k < n
      · rcases unhide HD with h0 | ⟨bl, off, rfl, hlo, hbl, DA, TA, DC, TC, hd⟩
        · omega
        rcases unhide HE with h0 | ⟨bl', off', rfl, hlo', hbl', DA', TA', DC', TC', hd'⟩
        · omega
        obtain ⟨h2, hcp, hin⟩ := hd k hlt
        obtain ⟨h2', hcp', hin'⟩ := hd' k hlt
        have c := h2.keep (w' := wr) (fun o => hbel.cell (p := ⟨bl, o, none⟩) (Nat.lt_of_lt_of_le hbl hhi))
        have d := h2'.keep (w' := wr) (fun o => hbel.cell (p := ⟨bl', o, none⟩) (Nat.lt_of_lt_of_le hbl' hhi))
        have H1 := hide (hin.later (hbel.mono hhi))
        have H2 := hide (hin'.later (hbel.mono hhi))
        have HFk := hide (unhide HF k hlt)
        have HPk := hide ((unhide HP).later (hbel.mono hhi))
        have HGk := hide (unhide HG k hlt)
        have lb := Nat.lt_of_lt_of_le (Nat.lt_of_lt_of_le hbl hhi) hbel.size
        have lb' := Nat.lt_of_lt_of_le (Nat.lt_of_lt_of_le hbl' hhi) hbel.size
        have hhr := Nat.le_trans hhi hbel.size
        have HV : Hid (∀ x, lyB (Q k) (R k) = x → lyB (Q k) (R k) = x) := fun _ h => h
        have HNo : Hid (lyB (Q k) (R k) = false → lsB n n Q R = false) := fun h => lsB_no (fun h' => by have := lyB_yes (h'.2 k hlt); rw [h] at this; cases this)
        have HYes : Hid (lyB (Q k) (R k) = true → ∀ j, j < k + 1 → (Q j).Same (R j)) := fun h j hj => by
          by_cases e : j = k
          · subst e; exact lyB_iff.1 h
          · exact unhide HK j (by omega)
        clear hin hin' h2 h2' hd hd'
        generalize Q k = q at *
        generalize R k = r at *
        generalize DA k = da at *
        generalize TA k = ta at *
        generalize DC k = dc at *
        generalize TC k = tc at *
        generalize DA' k = da' at *
        generalize TA' k = ta' at *
        generalize DC' k = dc' at *
        generalize TC' k = tc' at *
        obtain ⟨c0, c1⟩ := id c
        obtain ⟨d0, d1⟩ := id d
        cases hv : lyB q r
        · have HN := hide (unhide HNo hv)
          go_wp2_with fail
          have hb0 : Below w.heap.size w ((wr.alloc (.cells #[.slice da q.nd dc, .slice ta q.nt tc] 34)).alloc (.cells #[.slice da' r.nd dc', .slice ta' r.nt tc'] 34)) := (hbel.alloc hbel.size _).alloc (by have := hbel.size; simp; omega) _
          have hb1 : Below wr.heap.size wr ((wr.alloc (.cells #[.slice da q.nd dc, .slice ta q.nt tc] 34)).alloc (.cells #[.slice da' r.nd dc', .slice ta' r.nt tc'] 34)) := ((Below.refl _ _).alloc (Nat.le_refl _) _).alloc (by simp) _
          refine (layerSame_any lo hi q r _ _ _ _ _ _ _ _ _ ((unhide H1).later (hb1.mono hhr)) ((unhide H2).later (hb1.mono hhr)) (unhide HFk) (unhide HGk) (by simp; omega) ((unhide HPk).later (hb1.mono hhr)) hlohi).mono ?_
          rintro e wq ⟨rfl, bq⟩
          have BL := hb0.trans (bq.mono hb0.size)
          rw [hv]
          clear bq hb0 hb1
          go_wp2
          rw [unhide HN]
          go_ret
          exact ⟨rfl, BL⟩
        · have HK1 := hide (unhide HYes hv)
          go_wp2_with fail
          have hb0 : Below w.heap.size w ((wr.alloc (.cells #[.slice da q.nd dc, .slice ta q.nt tc] 34)).alloc (.cells #[.slice da' r.nd dc', .slice ta' r.nt tc'] 34)) := (hbel.alloc hbel.size _).alloc (by have := hbel.size; simp; omega) _
          have hb1 : Below wr.heap.size wr ((wr.alloc (.cells #[.slice da q.nd dc, .slice ta q.nt tc] 34)).alloc (.cells #[.slice da' r.nd dc', .slice ta' r.nt tc'] 34)) := ((Below.refl _ _).alloc (Nat.le_refl _) _).alloc (by simp) _
          refine (layerSame_any lo hi q r _ _ _ _ _ _ _ _ _ ((unhide H1).later (hb1.mono hhr)) ((unhide H2).later (hb1.mono hhr)) (unhide HFk) (unhide HGk) (by simp; omega) ((unhide HPk).later (hb1.mono hhr)) hlohi).mono ?_
          rintro e wq ⟨rfl, bq⟩
          have BL := hb0.trans (bq.mono hb0.size)
          rw [hv]
          clear bq hb0 hb1
          go_wp2
          go_roundw
          case rel => exact ⟨k + 1, by omega, by go_num, unhide HK1, BL⟩
          case measure => simp [intOf]; omega
      · have e : k = n := by omega
        subst e
        have HN := hide (lsB_yes (n := k) (n' := k) (Q := Q) (R := R) ⟨rfl, unhide HK⟩)
        go_wp2
        rw [unhide HN]
        go_ret
        exact ⟨rfl, hbel⟩
  · have HN := hide (lsB_no (n := n) (n' := n') (Q := Q) (R := R) (fun h => hnn h.1))
    have kb : ((n : Int) != (n' : Int)) = true := by simp; omega
    go_enter Try.func22, Try.ntmps22
    go_wp2
    rw [unhide HN]
    go_ret
    exact ⟨rfl, (by repeat (first | exact Below.refl _ _ | assumption | refine below_drewN ?_ _ | refine Below.drew ?_ | refine Below.alloc ?_ (by first | exact Nat.le_refl _ | exact Below.size (by assumption) | (simp; done) | (simp; omega)) _ | refine Below.setCell ?_ (by first | exact Nat.le_refl _ | exact Below.size (by assumption) | (simp; done) | (simp; omega)) _ | refine Below.trans ?_ (by assumption)))⟩
set_option maxHeartbeats 400000 in
theorem iCtxSame_any (lo hi : Nat) (a c : Option Addr) (n n' cap cap' : Nat) (Q R : Nat → Lyr) (w : World) (hd : LaysIn w lo hi a n Q) (hd' : LaysIn w lo hi c n' R) (hf : ∀ i, i < n → (Q i).Low) (hg : ∀ i, i < n' → (R i).Low) (hn : n ≤ 1048576) (hn' : n' ≤ 1048576) (hhi : hi ≤ w.heap.size) (hp : Pl w lo hi) (hlohi : lo ≤ hi) :
    Calls Try.prog 13 #[.slice a n cap, .slice c n' cap'] w fun e w' => e = .returned (.bool (lsB n n' Q R)) ∧ Below w.heap.size w w' := by
  have HC := hide (equalLs_any lo hi a c n n' cap cap' Q R w hd hd' hf hg hn hn' hhi hp hlohi)
  clear hd hd' hf hg hp
  go_enter Try.func13, Try.ntmps13
  go_wp2_with fail
  refine (unhide HC).mono ?_
  rintro e w1 ⟨rfl, b1⟩
  go_wp2
  go_ret
  exact ⟨rfl, b1⟩
end Go.Proofs.Ytbcojkadfbpmgaa
