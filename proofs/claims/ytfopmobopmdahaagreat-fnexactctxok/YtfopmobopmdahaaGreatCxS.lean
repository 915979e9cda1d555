/- Which layers are right (CtxOk), of the model. -/
import Derived.Test.YtfopmobopmdahaaGreatSrtC
import Derived.Test.YtfopmobopmdahaaGreatStpT
namespace Go.Proofs.YtfopmobopmdahaaGreat
open Go.ChangeShapes Go.WideShapes Go.ChangeAt Go.RowKit Go.Joins
set_option linter.unusedVariables false
set_option linter.unusedSimpArgs false

/-- A term's sort with names. -/
noncomputable def tsL (L : List (ByteArray × Int)) (t : TT) : Int := tsort L.length (sL L) (vL L) t
/-- Layers that are right. -/
def CtxP (n : Nat) (Q : Nat → Lyr) : Prop := 1 ≤ n ∧ n ≤ 6 ∧ DeclL (alN Q n) ∧ alT Q n ≤ 8 ∧ ∀ i, i < n → ∀ j, j < (Q i).nt → tsL (alN Q (i + 1)) ((Q i).kid j) = 0
noncomputable def ctxB (n : Nat) (Q : Nat → Lyr) : Bool := @decide (CtxP n Q) (Classical.propDecidable _)
theorem ctxB_iff {n : Nat} {Q : Nat → Lyr} : ctxB n Q = true ↔ CtxP n Q := by simp [ctxB]
theorem ctxB_yes {n : Nat} {Q : Nat → Lyr} (h : CtxP n Q) : ctxB n Q = true := ctxB_iff.2 h
theorem ctxB_no {n : Nat} {Q : Nat → Lyr} (h : ¬ CtxP n Q) : ctxB n Q = false := by simpa [ctxB] using h
theorem own_decl {w : World} {base g n cap : Nat} {L : List (ByteArray × Int)} (h : w.ownsRow base 40 2 (.slice (some ⟨g, 0, none⟩) n cap) n (dcells L)) (hn : n = L.length) : Decs w g 0 n (sL L) (vL L) := own_decs h hn
/-- No text of names is greater than so. -/
def SmL (M : Nat) (L : List (ByteArray × Int)) : Prop := ∀ i, i < L.length → (sL L i).size ≤ M
theorem SmL.nil {M : Nat} : SmL M [] := fun i hi => by simp at hi
theorem sL_back {L N : List (ByteArray × Int)} {i : Nat} (h : L.length ≤ i) : sL (L ++ N) i = sL N (i - L.length) ∧ vL (L ++ N) i = vL N (i - L.length) := by
  unfold sL vL
  rw [List.getD_eq_getElem?_getD, List.getD_eq_getElem?_getD, List.getElem?_append_right h]
  exact ⟨rfl, rfl⟩
theorem SmL.app {M : Nat} {L N : List (ByteArray × Int)} (h : SmL M L) (k : SmL M N) : SmL M (L ++ N) := fun i hi => by
  rw [List.length_append] at hi
  by_cases e : i < L.length
  · rw [(sL_front e).1]; exact h i e
  · rw [(sL_back (by omega)).1]; exact k _ (by omega)
theorem ns_at {q : Lyr} {i : Nat} (h : i < q.nd) : sL q.ns i = q.S i ∧ vL q.ns i = q.V i := by
  unfold sL vL Lyr.ns
  rw [dprs_at h]
  exact ⟨rfl, rfl⟩
theorem ns_len (q : Lyr) : q.ns.length = q.nd := dprs_len _ _ _
theorem SmL.ns {M : Nat} {q : Lyr} (h : ∀ i, i < q.nd → (q.S i).size ≤ M) : SmL M q.ns := fun i hi => by
  rw [ns_len] at hi
  rw [(ns_at hi).1]; exact h i hi
theorem SmL.alN {M : Nat} {Q : Nat → Lyr} : ∀ n, (∀ k, k < n → ∀ i, i < (Q k).nd → ((Q k).S i).size ≤ M) → SmL M (Go.Proofs.YtfopmobopmdahaaGreat.alN Q n)
  | 0, _ => SmL.nil
  | n + 1, h => SmL.app (SmL.alN n (fun k hk => h k (by omega))) (SmL.ns (h n (by omega)))
theorem LaysIn.front {w : World} {lo hi : Nat} {a : Option Addr} {n m : Nat} {Q : Nat → Lyr} (h : LaysIn w lo hi a n Q) (hm : m ≤ n) : LaysIn w lo hi a m Q := by
  rcases h with h | ⟨bl, off, h1, h2, h3, DA, TA, DC, TC, h4⟩
  · exact Or.inl (by omega)
  · exact Or.inr ⟨bl, off, h1, h2, h3, DA, TA, DC, TC, fun i hi => h4 i (by omega)⟩
set_option maxRecDepth 100000 in
set_option maxHeartbeats 2000000 in
theorem l10Decls_any (hi : Nat) (a : Option Addr) (n cap : Nat) (Q : Nat → Lyr) (w : World) (hd : LaysIn w 0 hi a n Q) (hs : (alN Q n).length ≤ 1048576) (hn : n ≤ 1048576) (hhi : hi ≤ w.heap.size) :
    Calls Tryz.prog 37 #[.slice a n cap] w fun e w' => (∃ g cp, e = .returned (.slice (some ⟨g, 0, none⟩) (alN Q n).length cp) ∧ w'.ownsRow w.heap.size 40 2 (.slice (some ⟨g, 0, none⟩) (alN Q n).length cp) (alN Q n).length (dcells (alN Q n))) ∧ Below w.heap.size w w' := by
  have HD := hide hd
  clear hd
  go_enter Tryz.func37, Tryz.ntmps37
  go_wp2
  obtain ⟨w1, hw1⟩ : ∃ v, v = w.alloc (.cells #[] 40) := ⟨_, rfl⟩
  have b1 : Below w.heap.size w w1 := by rw [hw1]; exact (Below.refl _ _).alloc (Nat.le_refl _) _
  have o1 : w1.ownsRow w.heap.size 40 2 (.slice (some ⟨w.heap.size, 0, none⟩) 0 0) 0 (dcells []) := decs_none (by rw [hw1]; exact heap_alloc_new w _) (Nat.le_refl _)
  rw [← hw1]
  clear hw1
  go_loopw [4, 3] (fun i v wr => ∃ (k g cp : Nat), k ≤ n ∧ i = .int .i64 k ∧ v = .slice (some ⟨g, 0, none⟩) (alN Q k).length cp ∧ wr.ownsRow w.heap.size 40 2 (.slice (some ⟨g, 0, none⟩) (alN Q k).length cp) (alN Q k).length (dcells (alN Q k)) ∧ Below w.heap.size w wr) (fun i _ _ => n - (intOf i).toNat)
  case atStart => exact ⟨0, w.heap.size, 0, by omega, rfl, rfl, o1, b1⟩
  case round =>
    clear o1 b1
    obtain ⟨k, g, cp, hk, rfl, rfl, own, hbel⟩ := hrel
    have OW := hide own
    clear own
    by_cases hlt : k < n
    · rcases unhide HD with h0 | ⟨bl, off, rfl, _, hbl, DA, TA, DC, TC, hd⟩
      · omega
      obtain ⟨h2, ⟨_, _, hz, _⟩, hin⟩ := hd k hlt
      obtain ⟨c0, c1⟩ := h2.keep (w' := wr) (fun o => hbel.cell (p := ⟨bl, o, none⟩) (Nat.lt_of_lt_of_le hbl hhi))
      have hin' := hin.later (hbel.mono hhi)
      have hmono : (alN Q (k + 1)).length ≤ (alN Q n).length := by
        obtain ⟨M, hM⟩ := alN_front Q (k + 1) n (by omega)
        rw [hM, List.length_append]; omega
      have hlen : (alN Q (k + 1)).length = (alN Q k).length + (Q k).nd := by simp only [alN, List.length_append, ns_len]
      obtain ⟨g2, cp2, w2, hrun, o2, gr2, at2⟩ := decs_put wr w.heap.size g _ cp hi (alN Q k) (Q k) (DA k) (DC k) (unhide OW) hin'.1 hz (by omega) hbel.size
      have HR := hide hrun
      have OW2 : Hid (w2.ownsRow w.heap.size 40 2 (.slice (some ⟨g2, 0, none⟩) (alN Q (k + 1)).length cp2) (alN Q (k + 1)).length (dcells (alN Q (k + 1)))) := by
        show World.ownsRow _ _ _ _ _ _ _
        rw [hlen]; exact o2
      have b2 := hbel.trans ((mov_of_grown gr2).below (own_base (unhide OW)) hbel.size)
      have hlen' : ((alN Q k).length + (Q k).nd : Nat) = (alN Q (k + 1)).length := hlen.symm
      have HL := hide hlen'
      clear hrun o2 gr2 at2 hin hin' h2 hd hlen hlen' hmono
      go_wp2_with (first | (at_builtin; refine wpList_append_run _ rfl (.tmp 12) (.tmp 17) 29 rfl _ _ _ _ rfl rfl (unhide HR) ?_))
      go_roundw
      case rel => exact ⟨k + 1, g2, cp2, by omega, by go_num, by rw [unhide HL], unhide OW2, b2⟩
      case measure => simp [intOf]; omega
    · have e : k = n := by omega
      subst e
      go_wp2
      go_ret
      exact ⟨⟨g, cp, rfl, unhide OW⟩, hbel⟩
set_option maxRecDepth 100000 in
set_option maxHeartbeats 2000000 in
theorem l10Terms_any (hi : Nat) (a : Option Addr) (n cap : Nat) (Q : Nat → Lyr) (w : World) (hd : LaysIn w 0 hi a n Q) (hs : alT Q n ≤ 1048576) (hn : n ≤ 1048576) (hhi : hi ≤ w.heap.size) :
    Calls Tryz.prog 38 #[.slice a n cap] w fun e w' => (∃ g cp L, e = .returned (.slice (some ⟨g, 0, none⟩) (alT Q n) cp) ∧ w'.ownsRow w.heap.size 50 5 (.slice (some ⟨g, 0, none⟩) (alT Q n) cp) (alT Q n) (tcells L)) ∧ Below w.heap.size w w' := by
  have HD := hide hd
  clear hd
  go_enter Tryz.func38, Tryz.ntmps38
  go_wp2
  obtain ⟨w1, hw1⟩ : ∃ v, v = w.alloc (.cells #[] 50) := ⟨_, rfl⟩
  have b1 : Below w.heap.size w w1 := by rw [hw1]; exact (Below.refl _ _).alloc (Nat.le_refl _) _
  have o1 : w1.ownsRow w.heap.size 50 5 (.slice (some ⟨w.heap.size, 0, none⟩) 0 0) 0 (tcells []) := terms_none (by rw [hw1]; exact heap_alloc_new w _) (Nat.le_refl _)
  rw [← hw1]
  clear hw1
  go_loopw [4, 3] (fun i v wr => ∃ (k g cp : Nat) (L : List Lt), k ≤ n ∧ i = .int .i64 k ∧ v = .slice (some ⟨g, 0, none⟩) (alT Q k) cp ∧ wr.ownsRow w.heap.size 50 5 (.slice (some ⟨g, 0, none⟩) (alT Q k) cp) (alT Q k) (tcells L) ∧ Below w.heap.size w wr) (fun i _ _ => n - (intOf i).toNat)
  case atStart => exact ⟨0, w.heap.size, 0, [], by omega, rfl, rfl, o1, b1⟩
  case round =>
    clear o1 b1
    obtain ⟨k, g, cp, L, hk, rfl, rfl, own, hbel⟩ := hrel
    have OW := hide own
    clear own
    by_cases hlt : k < n
    · rcases unhide HD with h0 | ⟨bl, off, rfl, _, hbl, DA, TA, DC, TC, hd⟩
      · omega
      obtain ⟨h2, ⟨_, _, _, hz⟩, hin⟩ := hd k hlt
      obtain ⟨c0, c1⟩ := h2.keep (w' := wr) (fun o => hbel.cell (p := ⟨bl, o, none⟩) (Nat.lt_of_lt_of_le hbl hhi))
      have hin' := hin.later (hbel.mono hhi)
      have hmono := alT_mono Q (k + 1) n (by omega)
      have hlen : alT Q (k + 1) = alT Q k + (Q k).nt := rfl
      obtain ⟨g2, cp2, w2, AD, CP, hrun, o2, gr2, at2, _⟩ := terms_put wr w.heap.size g _ cp hi L (Q k) (TA k) (TC k) (unhide OW) hin'.2 hz (by omega) hbel.size
      have HR := hide hrun
      have OW2 := hide o2
      have b2 := hbel.trans ((mov_of_grown gr2).below (own_base (unhide OW)) hbel.size)
      clear hrun o2 gr2 at2 hin hin' h2 hd hlen hmono
      go_wp2_with (first | (at_builtin; refine wpList_append_run _ rfl (.tmp 12) (.tmp 17) 48 rfl _ _ _ _ rfl rfl (unhide HR) ?_))
      go_roundw
      case rel => exact ⟨k + 1, g2, cp2, _, by omega, by go_num, rfl, unhide OW2, b2⟩
      case measure => simp [intOf]; omega
    · have e : k = n := by omega
      subst e
      go_wp2
      go_ret
      exact ⟨⟨g, cp, L, rfl, unhide OW⟩, hbel⟩
set_option maxRecDepth 100000 in
set_option maxHeartbeats 8000000 in
theorem sCtxOk_any (hi : Nat) (a : Option Addr) (n cap : Nat) (Q : Nat → Lyr) (w : World) (hd : LaysIn w 0 hi a n Q) (hf : ∀ i, i < n → (Q i).Low) (hs : sumN (fun i => (Q i).c) n ≤ 1048576) (hn : n ≤ 1048576) (hnc : n ≤ cap) (hcm : cap ≤ maxLen) (hhi : hi ≤ w.heap.size) :
    Calls Tryz.prog 10 #[.slice a n cap] w fun e w' => e = .returned (.bool (ctxB n Q)) ∧ Below w.heap.size w w' := by
  have hbd := alN_bd Q n
  have HD := hide hd
  have HF := hide hf
  have HSm : Hid (∀ m, m ≤ n → SmL 1048576 (alN Q m)) := fun m hm => SmL.alN m (fun k hk i hi => (hf k (by omega)).1.2.1 i hi)
  unfold maxLen at hcm
  clear hd hf
  by_cases h1 : n < 1
  · have HN := hide (ctxB_no (n := n) (Q := Q) (fun h => by have := h.1; omega))
    go_enter Tryz.func10, Tryz.ntmps10
    go_wp2
    rw [unhide HN]
    go_ret
    exact ⟨rfl, (by repeat (first | exact Below.refl _ _ | assumption | refine below_drewN ?_ _ | refine Below.drew ?_ | refine Below.alloc ?_ (by first | exact Nat.le_refl _ | exact Below.size (by assumption) | (simp; done) | (simp; omega)) _ | refine Below.setCell ?_ (by first | exact Nat.le_refl _ | exact Below.size (by assumption) | (simp; done) | (simp; omega)) _ | refine Below.trans ?_ (by assumption)))⟩
  by_cases h2 : 6 < n
  · have HN := hide (ctxB_no (n := n) (Q := Q) (fun h => by have := h.2.1; omega))
    go_enter Tryz.func10, Tryz.ntmps10
    go_wp2
    rw [unhide HN]
    go_ret
    exact ⟨rfl, (by repeat (first | exact Below.refl _ _ | assumption | refine below_drewN ?_ _ | refine Below.drew ?_ | refine Below.alloc ?_ (by first | exact Nat.le_refl _ | exact Below.size (by assumption) | (simp; done) | (simp; omega)) _ | refine Below.setCell ?_ (by first | exact Nat.le_refl _ | exact Below.size (by assumption) | (simp; done) | (simp; omega)) _ | refine Below.trans ?_ (by assumption)))⟩
  go_enter Tryz.func10, Tryz.ntmps10
  go_wp2_with fail
  refine (l10Decls_any hi a n cap Q w (unhide HD) (by omega) hn hhi).mono ?_
  rintro e w1 ⟨⟨g, cp, rfl, own⟩, b1⟩
  have DN := hide (own_decl own rfl)
  have gl := (own_cap own).2
  have gc := (own_cap own).1
  have BL := b1
  obtain ⟨N, hN⟩ : ∃ x, x = (alN Q n).length := ⟨_, rfl⟩
  have HN0 := hide hN
  rw [← hN] at DN gc ⊢
  clear own b1
  have SM : Hid (∀ i, i < N → (sL (alN Q n) i).size ≤ 1048576) := by rw [hN]; exact unhide HSm n (Nat.le_refl _)
  have hN9 : N ≤ 1048576 := by omega
  clear hN
  go_wp2_with fail
  refine (sDeclOk_any g 0 N cp (sL (alN Q n)) (vL (alN Q n)) w1 gl (unhide DN) gc hN9 (unhide SM)).mono ?_
  rintro e w2 ⟨rfl, b2⟩
  replace BL := BL.trans (b2.mono BL.size)
  clear b2 DN SM gl gc
  cases hdv : declB N (sL (alN Q n)) (vL (alN Q n))
  · have HNo := hide (ctxB_no (n := n) (Q := Q) (fun h => by have := declB_yes h.2.2.1; rw [← unhide HN0, hdv] at this; cases this))
    go_wp2
    rw [unhide HNo]
    go_ret
    exact ⟨rfl, BL⟩
  · have HDP : Hid (DeclL (alN Q n)) := by have := (declB_iff _ _ _).1 hdv; rw [unhide HN0] at this; exact this
    clear hdv
    go_wp2_with fail
    refine (l10Terms_any hi a n cap Q w2 ((unhide HD).later (BL.mono hhi)) (by omega) hn (Nat.le_trans hhi BL.size)).mono ?_
    rintro e w3 ⟨⟨g3, cp3, L3, rfl, _⟩, b3⟩
    replace BL := BL.trans (b3.mono BL.size)
    clear b3
    obtain ⟨T, hT⟩ : ∃ x, x = alT Q n := ⟨_, rfl⟩
    have HT := hide hT
    rw [← hT]
    have hT9 : T ≤ 1048576 := by omega
    clear hT
    by_cases h3 : 8 < T
    · have HNo := hide (ctxB_no (n := n) (Q := Q) (fun h => by have := h.2.2.2.1; have := unhide HT; omega))
      go_wp2
      rw [unhide HNo]
      go_ret
      exact ⟨rfl, BL⟩
    · have HT8 : Hid (alT Q n ≤ 8) := by show _ ≤ _; have := unhide HT; omega
      clear HT
      go_wp2
      go_loopw [3] (fun i wr => ∃ k : Nat, k ≤ n ∧ i = .int .i64 k ∧ (∀ i, i < k → ∀ j, j < (Q i).nt → tsL (alN Q (i + 1)) ((Q i).kid j) = 0) ∧ Below w.heap.size w wr) (fun i _ => n - (intOf i).toNat)
      case atStart => exact ⟨0, by omega, rfl, fun i hi => by omega, BL⟩
      case round =>
        clear BL
        obtain ⟨k, hk, rfl, hok, BL⟩ := hrel
        have HK := hide hok
        clear hok
        by_cases hlt : k < n
        · have hmono : (alN Q (k + 1)).length ≤ (alN Q n).length := by
            obtain ⟨M, hM⟩ := alN_front Q (k + 1) n (by omega)
            rw [hM, List.length_append]; omega
          have hn0 := unhide HN0
          have DF := hide (LaysIn.front ((unhide HD).later (BL.mono hhi)) (show k + 1 ≤ n by omega))
          rcases unhide HD with h0 | ⟨bl, off, rfl, _, hbl, DA, TA, DC, TC, hd⟩
          · omega
          obtain ⟨q2, ⟨_, ht, _, _⟩, hin⟩ := hd k hlt
          have HIN := hide hin
          have HQ2 := hide q2
          clear hd hin q2
          go_wp2_with fail
          refine (l10Decls_any hi _ (k + 1) _ Q wr (unhide DF) (by omega) (by omega) (Nat.le_trans hhi BL.size)).mono ?_
          rintro e w4 ⟨⟨g4, cp4, rfl, own⟩, b4⟩
          have DN := hide (own_decl own rfl)
          have gl := (own_cap own).2
          have gc := (own_cap own).1
          replace BL := BL.trans (b4.mono BL.size)
          obtain ⟨M, hM⟩ : ∃ x, x = (alN Q (k + 1)).length := ⟨_, rfl⟩
          have SM : Hid (∀ i, i < M → (sL (alN Q (k + 1)) i).size ≤ 1048576) := by rw [hM]; exact unhide HSm (k + 1) (by omega)
          have HM := hide hM
          rw [← hM] at DN gc ⊢
          have hM9 : M ≤ 1048576 := by omega
          clear own b4 DF hM hmono hn0
          have hk6 : k < 6 := by omega
          go_wp2
          go_loopw [5] (fun i ws => ∃ j : Nat, j ≤ (Q k).nt ∧ i = .int .i64 j ∧ (∀ i, i < j → tsL (alN Q (k + 1)) ((Q k).kid i) = 0) ∧ Decs ws g4 0 M (sL (alN Q (k + 1))) (vL (alN Q (k + 1))) ∧ g4 < ws.heap.size ∧ Below w.heap.size w ws) (fun i _ => (Q k).nt - (intOf i).toNat)
          case atStart => exact ⟨0, by omega, rfl, fun i hi => by omega, unhide DN, gl, BL⟩
          case round =>
            clear DN gl BL
            obtain ⟨j, hj, rfl, hoj, dn, gl, BL⟩ := hrel
            have HJ := hide hoj
            have DN := hide dn
            clear hoj dn
            obtain ⟨c0, c1⟩ := (unhide HQ2).keep (w' := wr) (fun o => BL.cell (p := ⟨bl, o, none⟩) (Nat.lt_of_lt_of_le hbl hhi))
            have hnt : (Q k).nt ≤ 1048576 := (unhide HF k hlt).1.2.2.1
            by_cases hjt : j < (Q k).nt
            · rcases (unhide HIN).2 with h0 | ⟨bt, ot, hta, _, hbt, AD, CP, hd⟩
              · exact absurd (show (Q k).nt = 0 from h0) (by omega)
              obtain ⟨h5, hcp, hi1⟩ := hd j hjt
              rw [hta] at c1
              have HTA := hide hta
              obtain ⟨f0, f1, f2, f3, f4⟩ := h5.keep (w' := wr) (fun o => BL.cell (p := ⟨bt, o, none⟩) (Nat.lt_of_lt_of_le hbt hhi))
              have H1 := hide (hi1.later (BL.mono hhi))
              have HFk := hide ((unhide HF k hlt).1.2.2.2 j hjt)
              have HNo : Hid (tsort M (sL (alN Q (k + 1))) (vL (alN Q (k + 1))) ((Q k).kid j) ≠ 0 → ctxB n Q = false) := fun h => ctxB_no (fun h' => h (by have := h'.2.2.2.2 k hlt j hjt; unfold tsL at this; rw [← unhide HM] at this; exact this))
              have HYes : Hid (tsort M (sL (alN Q (k + 1))) (vL (alN Q (k + 1))) ((Q k).kid j) = 0 → ∀ i, i < j + 1 → tsL (alN Q (k + 1)) ((Q k).kid i) = 0) := fun h i hi => by
                by_cases e : i = j
                · subst e; unfold tsL; rw [← unhide HM]; exact h
                · exact unhide HJ i (by omega)
              clear h5 hd hi1 hta
              generalize (Q k).kid j = t at *
              generalize AD j = ad at *
              generalize CP j = cpt at *
              obtain ⟨z, hz⟩ : ∃ z, z = tsort M (sL (alN Q (k + 1))) (vL (alN Q (k + 1))) t := ⟨_, rfl⟩
              rw [← hz] at HNo HYes
              have HZ := hide hz
              clear hz
              go_wp2_with fail
              refine (sTermSort_any g4 0 M cp4 hi (sL (alN Q (k + 1))) (vL (alN Q (k + 1))) hM9 gc (unhide SM) t ad cpt wr (unhide H1) (unhide HFk) (Nat.le_trans hhi BL.size) gl (unhide DN)).mono ?_
              rintro e w5 ⟨rfl, b5⟩
              rw [← unhide HZ]
              replace DN := hide ((unhide DN).later b5)
              replace gl := Nat.lt_of_lt_of_le gl b5.size
              replace BL := BL.trans (b5.mono BL.size)
              clear b5 f0 f1 f2 f3 f4 c0 c1
              by_cases hz0 : z = 0
              · have kz : (z != 0) = false := by simp [hz0]
                have HY := hide (unhide HYes hz0)
                clear hz0
                go_wp2
                go_roundw
                case rel => exact ⟨j + 1, by omega, by go_num, unhide HY, unhide DN, gl, BL⟩
                case measure => simp [intOf]; omega
              · have kz : (z != 0) = true := by simp [hz0]
                have HN' := hide (unhide HNo hz0)
                clear hz0
                go_wp2
                rw [unhide HN']
                go_ret
                exact ⟨rfl, BL⟩
            · have e : j = (Q k).nt := by omega
              have HK1 : Hid (∀ i, i < k + 1 → ∀ j, j < (Q i).nt → tsL (alN Q (i + 1)) ((Q i).kid j) = 0) := fun i hi => by
                by_cases e' : i = k
                · subst e'; rw [← e]; exact unhide HJ
                · exact unhide HK i (by omega)
              go_wp2
              go_roundw
              case rel => exact ⟨k + 1, by omega, by go_num, unhide HK1, BL⟩
              case measure => simp [intOf]; omega
        · have e : k = n := by omega
          subst e
          have HN' := hide (ctxB_yes (n := k) (Q := Q) ⟨by omega, by omega, unhide HDP, unhide HT8, unhide HK⟩)
          go_wp2
          rw [unhide HN']
          go_ret
          exact ⟨rfl, BL⟩
end Go.Proofs.YtfopmobopmdahaaGreat
