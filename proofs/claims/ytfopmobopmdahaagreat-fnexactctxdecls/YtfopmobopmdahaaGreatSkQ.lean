/- Which layers are right (CtxOk), of the model; the stack of layers that the program builds, and CtxOk of the program. -/
import Derived.Test.YtfopmobopmdahaaGreatSrtC
import Derived.Test.YtfopmobopmdahaaGreatLyQ
import Derived.Laws.OwnMore
import Derived.Deep.RegionLaw
import Derived.BigRegion
import Derived.Test.YtfopmobopmdahaaGreatDaA
import Derived.Deep.DeepCutAuto
namespace Go.Proofs.YtfopmobopmdahaaGreat
open Go.ChangeShapes Go.WideShapes Go.ChangeAt Go.RowKit Go.Joins
set_option linter.unusedVariables false
set_option linter.unusedSimpArgs false
/-- A term's sort with names. -/
noncomputable def tsL (L : List (ByteArray × Int)) (t : TT) : Int := tsort L.length (sL L) (vL L) t
/-- Layers that are right. -/
def CtxP (n : Nat) (Q : Nat → Lyr) : Prop := 1 ≤ n ∧ n ≤ 6 ∧ DeclL (alN Q n) ∧ alT Q n ≤ 8 ∧ ∀ i, i < n → ∀ j, j < (Q i).nt → tsL (alN Q (i + 1)) ((Q i).kid j) = 0
noncomputable def ctxB (n : Nat) (Q : Nat → Lyr) : Bool := @decide (CtxP n Q) (Classical.propDecidable _)
theorem ctxB_iff {n : Nat} {Q : Nat → Lyr} : ctxB n Q = true ↔ CtxP n Q := by simp [ctxB]
theorem ctxB_yes {n : Nat} {Q : Nat → Lyr} (h : CtxP n Q) : ctxB n Q = true := ctxB_iff.2 h
theorem ctxB_no {n : Nat} {Q : Nat → Lyr} (h : ¬ CtxP n Q) : ctxB n Q = false := by simpa [ctxB] using h
theorem own_decl {w : World} {base g n cap : Nat} {L : List (ByteArray × Int)} (h : w.ownsRow base 40 2 (.slice (some ⟨g, 0, none⟩) n cap) n (dcells L)) (hn : n = L.length) : Decs w g 0 n (sL L) (vL L) := own_decs h hn
/-- No text of names is greater than so. -/
def SmL (M : Nat) (L : List (ByteArray × Int)) : Prop := ∀ i, i < L.length → (sL L i).size ≤ M
theorem SmL.nil {M : Nat} : SmL M [] := fun i hi => by simp at hi
theorem sL_back {L N : List (ByteArray × Int)} {i : Nat} (h : L.length ≤ i) : sL (L ++ N) i = sL N (i - L.length) ∧ vL (L ++ N) i = vL N (i - L.length) := by
  unfold sL vL
  rw [List.getD_eq_getElem?_getD, List.getD_eq_getElem?_getD, List.getElem?_append_right h]
  exact ⟨rfl, rfl⟩
theorem SmL.app {M : Nat} {L N : List (ByteArray × Int)} (h : SmL M L) (k : SmL M N) : SmL M (L ++ N) := fun i hi => by
  rw [List.length_append] at hi
  by_cases e : i < L.length
  · rw [(sL_front e).1]; exact h i e
  · rw [(sL_back (by omega)).1]; exact k _ (by omega)
theorem ns_at {q : Lyr} {i : Nat} (h : i < q.nd) : sL q.ns i = q.S i ∧ vL q.ns i = q.V i := by
  unfold sL vL Lyr.ns
  rw [dprs_at h]
  exact ⟨rfl, rfl⟩
theorem ns_len (q : Lyr) : q.ns.length = q.nd := dprs_len _ _ _
theorem SmL.ns {M : Nat} {q : Lyr} (h : ∀ i, i < q.nd → (q.S i).size ≤ M) : SmL M q.ns := fun i hi => by
  rw [ns_len] at hi
  rw [(ns_at hi).1]; exact h i hi
theorem SmL.alN {M : Nat} {Q : Nat → Lyr} : ∀ n, (∀ k, k < n → ∀ i, i < (Q k).nd → ((Q k).S i).size ≤ M) → SmL M (Go.Proofs.YtfopmobopmdahaaGreat.alN Q n)
  | 0, _ => SmL.nil
  | n + 1, h => SmL.app (SmL.alN n (fun k hk => h k (by omega))) (SmL.ns (h n (by omega)))
theorem LaysIn.front {w : World} {lo hi : Nat} {a : Option Addr} {n m : Nat} {Q : Nat → Lyr} (h : LaysIn w lo hi a n Q) (hm : m ≤ n) : LaysIn w lo hi a m Q := by
  rcases h with h | ⟨bl, off, h1, h2, h3, DA, TA, DC, TC, h4⟩
  · exact Or.inl (by omega)
  · exact Or.inr ⟨bl, off, h1, h2, h3, DA, TA, DC, TC, fun i hi => h4 i (by omega)⟩
set_option maxRecDepth 100000 in
set_option maxHeartbeats 2000000 in
theorem l10Decls_any (hi : Nat) (a : Option Addr) (n cap : Nat) (Q : Nat → Lyr) (w : World) (hd : LaysIn w 0 hi a n Q) (hs : (alN Q n).length ≤ 1048576) (hn : n ≤ 1048576) (hhi : hi ≤ w.heap.size) :
    Calls Tryz.prog 37 #[.slice a n cap] w fun e w' => (∃ g cp, e = .returned (.slice (some ⟨g, 0, none⟩) (alN Q n).length cp) ∧ w'.ownsRow w.heap.size 40 2 (.slice (some ⟨g, 0, none⟩) (alN Q n).length cp) (alN Q n).length (dcells (alN Q n))) ∧ Below w.heap.size w w' := by
  have HD := hide hd
  clear hd
  go_enter Tryz.func37, Tryz.ntmps37
  go_wp2
  obtain ⟨w1, hw1⟩ : ∃ v, v = w.alloc (.cells #[] 40) := ⟨_, rfl⟩
  have b1 : Below w.heap.size w w1 := by rw [hw1]; exact (Below.refl _ _).alloc (Nat.le_refl _) _
  have o1 : w1.ownsRow w.heap.size 40 2 (.slice (some ⟨w.heap.size, 0, none⟩) 0 0) 0 (dcells []) := decs_none (by rw [hw1]; exact heap_alloc_new w _) (Nat.le_refl _)
  rw [← hw1]
  clear hw1
  go_loopw [4, 3] (fun i v wr => ∃ (k g cp : Nat), k ≤ n ∧ i = .int .i64 k ∧ v = .slice (some ⟨g, 0, none⟩) (alN Q k).length cp ∧ wr.ownsRow w.heap.size 40 2 (.slice (some ⟨g, 0, none⟩) (alN Q k).length cp) (alN Q k).length (dcells (alN Q k)) ∧ Below w.heap.size w wr) (fun i _ _ => n - (intOf i).toNat)
  case atStart => exact ⟨0, w.heap.size, 0, by omega, rfl, rfl, o1, b1⟩
  case round =>
    clear o1 b1
    obtain ⟨k, g, cp, hk, rfl, rfl, own, hbel⟩ := hrel
    have OW := hide own
    clear own
    by_cases hlt : k < n
    · rcases unhide HD with h0 | ⟨bl, off, rfl, _, hbl, DA, TA, DC, TC, hd⟩
      · omega
      obtain ⟨h2, ⟨_, _, hz, _⟩, hin⟩ := hd k hlt
      obtain ⟨c0, c1⟩ := h2.keep (w' := wr) (fun o => hbel.cell (p := ⟨bl, o, none⟩) (Nat.lt_of_lt_of_le hbl hhi))
      have hin' := hin.later (hbel.mono hhi)
      have hmono : (alN Q (k + 1)).length ≤ (alN Q n).length := by
        obtain ⟨M, hM⟩ := alN_front Q (k + 1) n (by omega)
        rw [hM, List.length_append]; omega
      have hlen : (alN Q (k + 1)).length = (alN Q k).length + (Q k).nd := by simp only [alN, List.length_append, ns_len]
      obtain ⟨g2, cp2, w2, hrun, o2, gr2, at2⟩ := decs_put wr w.heap.size g _ cp hi (alN Q k) (Q k) (DA k) (DC k) (unhide OW) hin'.1 hz (by omega) hbel.size
      have HR := hide hrun
      have OW2 : Hid (w2.ownsRow w.heap.size 40 2 (.slice (some ⟨g2, 0, none⟩) (alN Q (k + 1)).length cp2) (alN Q (k + 1)).length (dcells (alN Q (k + 1)))) := by
        show World.ownsRow _ _ _ _ _ _ _
        rw [hlen]; exact o2
      have b2 := hbel.trans ((mov_of_grown gr2).below (own_base (unhide OW)) hbel.size)
      have hlen' : ((alN Q k).length + (Q k).nd : Nat) = (alN Q (k + 1)).length := hlen.symm
      have HL := hide hlen'
      clear hrun o2 gr2 at2 hin hin' h2 hd hlen hlen' hmono
      go_wp2_with (first | (at_builtin; refine wpList_append_run _ rfl (.tmp 12) (.tmp 17) 29 rfl _ _ _ _ rfl rfl (unhide HR) ?_))
      go_roundw
      case rel => exact ⟨k + 1, g2, cp2, by omega, by go_num, by rw [unhide HL], unhide OW2, b2⟩
      case measure => simp [intOf]; omega
    · have e : k = n := by omega
      subst e
      go_wp2
      go_ret
      exact ⟨⟨g, cp, rfl, unhide OW⟩, hbel⟩
set_option maxRecDepth 100000 in
set_option maxHeartbeats 2000000 in
theorem l10Terms_any (hi : Nat) (a : Option Addr) (n cap : Nat) (Q : Nat → Lyr) (w : World) (hd : LaysIn w 0 hi a n Q) (hs : alT Q n ≤ 1048576) (hn : n ≤ 1048576) (hhi : hi ≤ w.heap.size) :
    Calls Tryz.prog 38 #[.slice a n cap] w fun e w' => (∃ g cp L, e = .returned (.slice (some ⟨g, 0, none⟩) (alT Q n) cp) ∧ w'.ownsRow w.heap.size 50 5 (.slice (some ⟨g, 0, none⟩) (alT Q n) cp) (alT Q n) (tcells L)) ∧ Below w.heap.size w w' := by
  have HD := hide hd
  clear hd
  go_enter Tryz.func38, Tryz.ntmps38
  go_wp2
  obtain ⟨w1, hw1⟩ : ∃ v, v = w.alloc (.cells #[] 50) := ⟨_, rfl⟩
  have b1 : Below w.heap.size w w1 := by rw [hw1]; exact (Below.refl _ _).alloc (Nat.le_refl _) _
  have o1 : w1.ownsRow w.heap.size 50 5 (.slice (some ⟨w.heap.size, 0, none⟩) 0 0) 0 (tcells []) := terms_none (by rw [hw1]; exact heap_alloc_new w _) (Nat.le_refl _)
  rw [← hw1]
  clear hw1
  go_loopw [4, 3] (fun i v wr => ∃ (k g cp : Nat) (L : List Lt), k ≤ n ∧ i = .int .i64 k ∧ v = .slice (some ⟨g, 0, none⟩) (alT Q k) cp ∧ wr.ownsRow w.heap.size 50 5 (.slice (some ⟨g, 0, none⟩) (alT Q k) cp) (alT Q k) (tcells L) ∧ Below w.heap.size w wr) (fun i _ _ => n - (intOf i).toNat)
  case atStart => exact ⟨0, w.heap.size, 0, [], by omega, rfl, rfl, o1, b1⟩
  case round =>
    clear o1 b1
    obtain ⟨k, g, cp, L, hk, rfl, rfl, own, hbel⟩ := hrel
    have OW := hide own
    clear own
    by_cases hlt : k < n
    · rcases unhide HD with h0 | ⟨bl, off, rfl, _, hbl, DA, TA, DC, TC, hd⟩
      · omega
      obtain ⟨h2, ⟨_, _, _, hz⟩, hin⟩ := hd k hlt
      obtain ⟨c0, c1⟩ := h2.keep (w' := wr) (fun o => hbel.cell (p := ⟨bl, o, none⟩) (Nat.lt_of_lt_of_le hbl hhi))
      have hin' := hin.later (hbel.mono hhi)
      have hmono := alT_mono Q (k + 1) n (by omega)
      have hlen : alT Q (k + 1) = alT Q k + (Q k).nt := rfl
      obtain ⟨g2, cp2, w2, AD, CP, hrun, o2, gr2, at2, _⟩ := terms_put wr w.heap.size g _ cp hi L (Q k) (TA k) (TC k) (unhide OW) hin'.2 hz (by omega) hbel.size
      have HR := hide hrun
      have OW2 := hide o2
      have b2 := hbel.trans ((mov_of_grown gr2).below (own_base (unhide OW)) hbel.size)
      clear hrun o2 gr2 at2 hin hin' h2 hd hlen hmono
      go_wp2_with (first | (at_builtin; refine wpList_append_run _ rfl (.tmp 12) (.tmp 17) 48 rfl _ _ _ _ rfl rfl (unhide HR) ?_))
      go_roundw
      case rel => exact ⟨k + 1, g2, cp2, _, by omega, by go_num, rfl, unhide OW2, b2⟩
      case measure => simp [intOf]; omega
    · have e : k = n := by omega
      subst e
      go_wp2
      go_ret
      exact ⟨⟨g, cp, L, rfl, unhide OW⟩, hbel⟩
set_option maxRecDepth 100000 in
set_option maxHeartbeats 8000000 in
theorem sCtxOk_any (hi : Nat) (a : Option Addr) (n cap : Nat) (Q : Nat → Lyr) (w : World) (hd : LaysIn w 0 hi a n Q) (hf : ∀ i, i < n → (Q i).Low) (hs : sumN (fun i => (Q i).c) n ≤ 1048576) (hn : n ≤ 1048576) (hnc : n ≤ cap) (hcm : cap ≤ maxLen) (hhi : hi ≤ w.heap.size) :
    Calls Tryz.prog 10 #[.slice a n cap] w fun e w' => e = .returned (.bool (ctxB n Q)) ∧ Below w.heap.size w w' := by
  have hbd := alN_bd Q n
  have HD := hide hd
  have HF := hide hf
  have HSm : Hid (∀ m, m ≤ n → SmL 1048576 (alN Q m)) := fun m hm => SmL.alN m (fun k hk i hi => (hf k (by omega)).1.2.1 i hi)
  unfold maxLen at hcm
  clear hd hf
  by_cases h1 : n < 1
  · have HN := hide (ctxB_no (n := n) (Q := Q) (fun h => by have := h.1; omega))
    go_enter Tryz.func10, Tryz.ntmps10
    go_wp2
    rw [unhide HN]
    go_ret
    exact ⟨rfl, (by repeat (first | exact Below.refl _ _ | assumption | refine below_drewN ?_ _ | refine Below.drew ?_ | refine Below.alloc ?_ (by first | exact Nat.le_refl _ | exact Below.size (by assumption) | (simp; done) | (simp; omega)) _ | refine Below.setCell ?_ (by first | exact Nat.le_refl _ | exact Below.size (by assumption) | (simp; done) | (simp; omega)) _ | refine Below.trans ?_ (by assumption)))⟩
  by_cases h2 : 6 < n
  · have HN := hide (ctxB_no (n := n) (Q := Q) (fun h => by have := h.2.1; omega))
    go_enter Tryz.func10, Tryz.ntmps10
    go_wp2
    rw [unhide HN]
    go_ret
    exact ⟨rfl, (by repeat (first | exact Below.refl _ _ | assumption | refine below_drewN ?_ _ | refine Below.drew ?_ | refine Below.alloc ?_ (by first | exact Nat.le_refl _ | exact Below.size (by assumption) | (simp; done) | (simp; omega)) _ | refine Below.setCell ?_ (by first | exact Nat.le_refl _ | exact Below.size (by assumption) | (simp; done) | (simp; omega)) _ | refine Below.trans ?_ (by assumption)))⟩
  go_enter Tryz.func10, Tryz.ntmps10
  go_wp2_with fail
  refine (l10Decls_any hi a n cap Q w (unhide HD) (by omega) hn hhi).mono ?_
  rintro e w1 ⟨⟨g, cp, rfl, own⟩, b1⟩
  have DN := hide (own_decl own rfl)
  have gl := (own_cap own).2
  have gc := (own_cap own).1
  have BL := b1
  obtain ⟨N, hN⟩ : ∃ x, x = (alN Q n).length := ⟨_, rfl⟩
  have HN0 := hide hN
  rw [← hN] at DN gc ⊢
  clear own b1
  have SM : Hid (∀ i, i < N → (sL (alN Q n) i).size ≤ 1048576) := by rw [hN]; exact unhide HSm n (Nat.le_refl _)
  have hN9 : N ≤ 1048576 := by omega
  clear hN
  go_wp2_with fail
  refine (sDeclOk_any g 0 N cp (sL (alN Q n)) (vL (alN Q n)) w1 gl (unhide DN) gc hN9 (unhide SM)).mono ?_
  rintro e w2 ⟨rfl, b2⟩
  replace BL := BL.trans (b2.mono BL.size)
  clear b2 DN SM gl gc
  cases hdv : declB N (sL (alN Q n)) (vL (alN Q n))
  · have HNo := hide (ctxB_no (n := n) (Q := Q) (fun h => by have := declB_yes h.2.2.1; rw [← unhide HN0, hdv] at this; cases this))
    go_wp2
    rw [unhide HNo]
    go_ret
    exact ⟨rfl, BL⟩
  · have HDP : Hid (DeclL (alN Q n)) := by have := (declB_iff _ _ _).1 hdv; rw [unhide HN0] at this; exact this
    clear hdv
    go_wp2_with fail
    refine (l10Terms_any hi a n cap Q w2 ((unhide HD).later (BL.mono hhi)) (by omega) hn (Nat.le_trans hhi BL.size)).mono ?_
    rintro e w3 ⟨⟨g3, cp3, L3, rfl, _⟩, b3⟩
    replace BL := BL.trans (b3.mono BL.size)
    clear b3
    obtain ⟨T, hT⟩ : ∃ x, x = alT Q n := ⟨_, rfl⟩
    have HT := hide hT
    rw [← hT]
    have hT9 : T ≤ 1048576 := by omega
    clear hT
    by_cases h3 : 8 < T
    · have HNo := hide (ctxB_no (n := n) (Q := Q) (fun h => by have := h.2.2.2.1; have := unhide HT; omega))
      go_wp2
      rw [unhide HNo]
      go_ret
      exact ⟨rfl, BL⟩
    · have HT8 : Hid (alT Q n ≤ 8) := by show _ ≤ _; have := unhide HT; omega
      clear HT
      go_wp2
      go_loopw [3] (fun i wr => ∃ k : Nat, k ≤ n ∧ i = .int .i64 k ∧ (∀ i, i < k → ∀ j, j < (Q i).nt → tsL (alN Q (i + 1)) ((Q i).kid j) = 0) ∧ Below w.heap.size w wr) (fun i _ => n - (intOf i).toNat)
      case atStart => exact ⟨0, by omega, rfl, fun i hi => by omega, BL⟩
      case round =>
        clear BL
        obtain ⟨k, hk, rfl, hok, BL⟩ := hrel
        have HK := hide hok
        clear hok
        by_cases hlt : k < n
        · have hmono : (alN Q (k + 1)).length ≤ (alN Q n).length := by
            obtain ⟨M, hM⟩ := alN_front Q (k + 1) n (by omega)
            rw [hM, List.length_append]; omega
          have hn0 := unhide HN0
          have DF := hide (LaysIn.front ((unhide HD).later (BL.mono hhi)) (show k + 1 ≤ n by omega))
          rcases unhide HD with h0 | ⟨bl, off, rfl, _, hbl, DA, TA, DC, TC, hd⟩
          · omega
          obtain ⟨q2, ⟨_, ht, _, _⟩, hin⟩ := hd k hlt
          have HIN := hide hin
          have HQ2 := hide q2
          clear hd hin q2
          go_wp2_with fail
          refine (l10Decls_any hi _ (k + 1) _ Q wr (unhide DF) (by omega) (by omega) (Nat.le_trans hhi BL.size)).mono ?_
          rintro e w4 ⟨⟨g4, cp4, rfl, own⟩, b4⟩
          have DN := hide (own_decl own rfl)
          have gl := (own_cap own).2
          have gc := (own_cap own).1
          replace BL := BL.trans (b4.mono BL.size)
          obtain ⟨M, hM⟩ : ∃ x, x = (alN Q (k + 1)).length := ⟨_, rfl⟩
          have SM : Hid (∀ i, i < M → (sL (alN Q (k + 1)) i).size ≤ 1048576) := by rw [hM]; exact unhide HSm (k + 1) (by omega)
          have HM := hide hM
          rw [← hM] at DN gc ⊢
          have hM9 : M ≤ 1048576 := by omega
          clear own b4 DF hM hmono hn0
          have hk6 : k < 6 := by omega
          go_wp2
          go_loopw [5] (fun i ws => ∃ j : Nat, j ≤ (Q k).nt ∧ i = .int .i64 j ∧ (∀ i, i < j → tsL (alN Q (k + 1)) ((Q k).kid i) = 0) ∧ Decs ws g4 0 M (sL (alN Q (k + 1))) (vL (alN Q (k + 1))) ∧ g4 < ws.heap.size ∧ Below w.heap.size w ws) (fun i _ => (Q k).nt - (intOf i).toNat)
          case atStart => exact ⟨0, by omega, rfl, fun i hi => by omega, unhide DN, gl, BL⟩
          case round =>
            clear DN gl BL
            obtain ⟨j, hj, rfl, hoj, dn, gl, BL⟩ := hrel
            have HJ := hide hoj
            have DN := hide dn
            clear hoj dn
            obtain ⟨c0, c1⟩ := (unhide HQ2).keep (w' := wr) (fun o => BL.cell (p := ⟨bl, o, none⟩) (Nat.lt_of_lt_of_le hbl hhi))
            have hnt : (Q k).nt ≤ 1048576 := (unhide HF k hlt).1.2.2.1
            by_cases hjt : j < (Q k).nt
            · rcases (unhide HIN).2 with h0 | ⟨bt, ot, hta, _, hbt, AD, CP, hd⟩
              · exact absurd (show (Q k).nt = 0 from h0) (by omega)
              obtain ⟨h5, hcp, hi1⟩ := hd j hjt
              rw [hta] at c1
              have HTA := hide hta
              obtain ⟨f0, f1, f2, f3, f4⟩ := h5.keep (w' := wr) (fun o => BL.cell (p := ⟨bt, o, none⟩) (Nat.lt_of_lt_of_le hbt hhi))
              have H1 := hide (hi1.later (BL.mono hhi))
              have HFk := hide ((unhide HF k hlt).1.2.2.2 j hjt)
              have HNo : Hid (tsort M (sL (alN Q (k + 1))) (vL (alN Q (k + 1))) ((Q k).kid j) ≠ 0 → ctxB n Q = false) := fun h => ctxB_no (fun h' => h (by have := h'.2.2.2.2 k hlt j hjt; unfold tsL at this; rw [← unhide HM] at this; exact this))
              have HYes : Hid (tsort M (sL (alN Q (k + 1))) (vL (alN Q (k + 1))) ((Q k).kid j) = 0 → ∀ i, i < j + 1 → tsL (alN Q (k + 1)) ((Q k).kid i) = 0) := fun h i hi => by
                by_cases e : i = j
                · subst e; unfold tsL; rw [← unhide HM]; exact h
                · exact unhide HJ i (by omega)
              clear h5 hd hi1 hta
              generalize (Q k).kid j = t at *
              generalize AD j = ad at *
              generalize CP j = cpt at *
              obtain ⟨z, hz⟩ : ∃ z, z = tsort M (sL (alN Q (k + 1))) (vL (alN Q (k + 1))) t := ⟨_, rfl⟩
              rw [← hz] at HNo HYes
              have HZ := hide hz
              clear hz
              go_wp2_with fail
              refine (sTermSort_any g4 0 M cp4 hi (sL (alN Q (k + 1))) (vL (alN Q (k + 1))) hM9 gc (unhide SM) t ad cpt wr (unhide H1) (unhide HFk) (Nat.le_trans hhi BL.size) gl (unhide DN)).mono ?_
              rintro e w5 ⟨rfl, b5⟩
              rw [← unhide HZ]
              replace DN := hide ((unhide DN).later b5)
              replace gl := Nat.lt_of_lt_of_le gl b5.size
              replace BL := BL.trans (b5.mono BL.size)
              clear b5 f0 f1 f2 f3 f4 c0 c1
              by_cases hz0 : z = 0
              · have kz : (z != 0) = false := by simp [hz0]
                have HY := hide (unhide HYes hz0)
                clear hz0
                go_wp2
                go_roundw
                case rel => exact ⟨j + 1, by omega, by go_num, unhide HY, unhide DN, gl, BL⟩
                case measure => simp [intOf]; omega
              · have kz : (z != 0) = true := by simp [hz0]
                have HN' := hide (unhide HNo hz0)
                clear hz0
                go_wp2
                rw [unhide HN']
                go_ret
                exact ⟨rfl, BL⟩
            · have e : j = (Q k).nt := by omega
              have HK1 : Hid (∀ i, i < k + 1 → ∀ j, j < (Q i).nt → tsL (alN Q (i + 1)) ((Q i).kid j) = 0) := fun i hi => by
                by_cases e' : i = k
                · subst e'; rw [← e]; exact unhide HJ
                · exact unhide HK i (by omega)
              go_wp2
              go_roundw
              case rel => exact ⟨k + 1, by omega, by go_num, unhide HK1, BL⟩
              case measure => simp [intOf]; omega
        · have e : k = n := by omega
          subst e
          have HN' := hide (ctxB_yes (n := k) (Q := Q) ⟨by omega, by omega, unhide HDP, unhide HT8, unhide HK⟩)
          go_wp2
          rw [unhide HN']
          go_ret
          exact ⟨rfl, BL⟩
/-- Where a stack lies: its block, and its three lists. -/
structure SK where
  B : Nat
  dv : Value
  tv : Value
  mv : Value
/-- A block that is none of a stack's. -/
structure Far (K : SK) (x : Nat) : Prop where
  b : x ≠ K.B
  d : K.dv.ownBlock ≠ some x
  t : K.tv.ownBlock ≠ some x
  m : K.mv.ownBlock ≠ some x
/-- From one world to another nothing but a stack has turned, and what is far from it stays far. -/
structure Stp (K : SK) (w : World) (K' : SK) (w' : World) : Prop where
  os : w'.os = w.os
  tape : w'.tape = w.tape
  output : w'.output = w.output
  size : w.heap.size ≤ w'.heap.size
  far : ∀ x, x < w.heap.size → Far K x → Far K' x
  block : ∀ x, x < w.heap.size → Far K x → w'.heap[x]? = w.heap[x]?
theorem Stp.refl (K : SK) (w : World) : Stp K w K w := ⟨rfl, rfl, rfl, Nat.le_refl _, fun _ _ h => h, fun _ _ _ => rfl⟩
theorem Stp.trans {K K' K'' : SK} {a b c : World} (h : Stp K a K' b) (k : Stp K' b K'' c) : Stp K a K'' c :=
  ⟨k.os.trans h.os, k.tape.trans h.tape, k.output.trans h.output, Nat.le_trans h.size k.size, fun x hx hf => k.far x (Nat.lt_of_lt_of_le hx h.size) (h.far x hx hf), fun x hx hf => (k.block x (Nat.lt_of_lt_of_le hx h.size) (h.far x hx hf)).trans (h.block x hx hf)⟩
theorem Stp.of {K : SK} {w w' : World} (h : Below w.heap.size w w') : Stp K w K w' := ⟨h.os, h.tape, h.output, h.size, fun _ _ h => h, fun x hx _ => h.block x hx⟩
theorem Stp.drew {K K' : SK} {w w' : World} (h : Stp K w K' w') : Stp K w K' w'.drew := ⟨h.os, h.tape, h.output, h.size, h.far, h.block⟩
/-- All of a stack's blocks are from here on. -/
def Up (K : SK) (base : Nat) : Prop := base ≤ K.B ∧ (∀ k, K.dv.ownBlock = some k → base ≤ k) ∧ (∀ k, K.tv.ownBlock = some k → base ≤ k) ∧ ∀ k, K.mv.ownBlock = some k → base ≤ k
theorem Up.far {K : SK} {base x : Nat} (h : Up K base) (hx : x < base) : Far K x :=
  ⟨by have := h.1; omega, fun e => by have := h.2.1 x e; omega, fun e => by have := h.2.2.1 x e; omega, fun e => by have := h.2.2.2 x e; omega⟩
theorem Stp.below {K K' : SK} {w w' : World} {base : Nat} (h : Stp K w K' w') (hu : Up K base) (hb : base ≤ w.heap.size) : Below base w w' :=
  ⟨h.os, h.tape, h.output, h.size, fun x hx => h.block x (by omega) (hu.far hx)⟩
theorem Stp.cell {K K' : SK} {w w' : World} (h : Stp K w K' w') {p : Addr} {v : Value} (hc : w.cell? p = some v) (hf : Far K p.block) : w'.cell? p = some v :=
  (World.cell?_of_block (w := w) (h.block p.block (World.block_lt_of_cell? _ _ hc) hf)).trans hc
/-- Marks as cells. -/
def mcell (p : Nat × Nat) : List Value := [.int .i64 (p.1 : Int), .int .i64 (p.2 : Int), .slice none 0 0, .int .i64 0]
def mcells (M : List (Nat × Nat)) : List Value := M.flatMap mcell
theorem mcells_app (L M : List (Nat × Nat)) : mcells (L ++ M) = mcells L ++ mcells M := by simp [mcells]
theorem mcells_size : ∀ (L : List (Nat × Nat)), (mcells L).length = L.length * 4
  | [] => rfl
  | p :: L => by
    have e : mcells (p :: L) = mcell p ++ mcells L := rfl
    rw [e, List.length_append, mcells_size L]; simp [mcell]; omega
theorem mcells_cell {L : List (Nat × Nat)} : ∀ u ∈ mcells L, u.oneCell' = true := by
  intro u hu
  unfold mcells at hu
  rw [List.mem_flatMap] at hu
  obtain ⟨p, _, h⟩ := hu
  unfold mcell at h
  simp only [List.mem_cons, List.not_mem_nil, or_false] at h
  rcases h with h | h | h | h <;> subst h <;> rfl
theorem mcells_at : ∀ (L : List (Nat × Nat)) (i j : Nat) (h : i < L.length), j < 4 → (mcells L)[i * 4 + j]? = (mcell L[i])[j]?
  | [], i, j, h, _ => by simp at h
  | p :: L, 0, j, h, hj => by
    have e : mcells (p :: L) = mcell p ++ mcells L := rfl
    rw [e, Nat.zero_mul, Nat.zero_add, List.getElem?_append_left (by simp [mcell]; omega)]
    rfl
  | p :: L, i + 1, j, h, hj => by
    have e : mcells (p :: L) = mcell p ++ mcells L := rfl
    have h' : i < L.length := by simpa using h
    have ih := mcells_at L i j h' hj
    have hl : (mcell p).length = 4 := rfl
    rw [e, List.getElem?_append_right (by rw [hl]; omega), hl, show (i + 1) * 4 + j - 4 = i * 4 + j by omega]
    simpa using ih
/-- What is written anew as it was is as it was. -/
theorem set_same {α : Type} : ∀ (l : List α) (i : Nat) (v : α), l[i]? = some v → l.set i v = l
  | [], _, _, _ => rfl
  | x :: l, 0, v, h => by simp at h; subst h; rfl
  | x :: l, i + 1, v, h => by simp at h; simp [set_same l i v h]
/-- A stack of these names, these terms, these marks. -/
structure Stk (w : World) (base : Nat) (K : SK) (L : List (ByteArray × Int)) (T : List Lt) (M : List (Nat × Nat)) : Prop where
  up : base ≤ K.B
  c0 : w.cell? ⟨K.B, 0, none⟩ = some K.dv
  c1 : w.cell? ⟨K.B, 1, none⟩ = some K.tv
  c2 : w.cell? ⟨K.B, 2, none⟩ = some K.mv
  fz : ∀ o, w.frozen? ⟨K.B, o, none⟩ = false
  od : w.ownsRow base 40 2 K.dv L.length (dcells L)
  ot : w.ownsRow base 50 5 K.tv T.length (tcells T)
  om : w.ownsRow base 101 4 K.mv M.length (mcells M)
  nd : K.dv.ownBlock ≠ some K.B
  nt : K.tv.ownBlock ≠ some K.B
  nm : K.mv.ownBlock ≠ some K.B
  dt : K.dv.ownBlock = none ∨ K.dv.ownBlock ≠ K.tv.ownBlock
  dm : K.dv.ownBlock = none ∨ K.dv.ownBlock ≠ K.mv.ownBlock
  tm : K.tv.ownBlock = none ∨ K.tv.ownBlock ≠ K.mv.ownBlock
variable {w w' : World} {base : Nat} {K K' : SK} {L : List (ByteArray × Int)} {T : List Lt} {M : List (Nat × Nat)}
theorem Stk.lt (h : Stk w base K L T M) : K.B < w.heap.size := World.block_lt_of_cell? _ _ h.c0
theorem Stk.isUp (h : Stk w base K L T M) : Up K base := ⟨h.up, fun k e => (World.ownsRow.lt h.od k e).1, fun k e => (World.ownsRow.lt h.ot k e).1, fun k e => (World.ownsRow.lt h.om k e).1⟩
theorem Stk.far_new (h : Stk w base K L T M) {x : Nat} (hx : w.heap.size ≤ x) : Far K x :=
  ⟨by have := h.lt; omega, fun e => by have := (World.ownsRow.lt h.od x e).2; omega, fun e => by have := (World.ownsRow.lt h.ot x e).2; omega, fun e => by have := (World.ownsRow.lt h.om x e).2; omega⟩
theorem Stk.later (h : Stk w base K L T M) (hb : Below w.heap.size w w') : Stk w' base K L T M :=
  ⟨h.up, cell_later hb h.c0, cell_later hb h.c1, cell_later hb h.c2, fun o => (hb.frozen (p := ⟨K.B, o, none⟩) h.lt).trans (h.fz o), h.od.kept (grown_below hb) (by cases K.dv.ownBlock <;> simp), h.ot.kept (grown_below hb) (by cases K.tv.ownBlock <;> simp), h.om.kept (grown_below hb) (by cases K.mv.ownBlock <;> simp), h.nd, h.nt, h.nm, h.dt, h.dm, h.tm⟩
theorem Stk.drew (h : Stk w base K L T M) : Stk w.drew base K L T M := ⟨h.up, h.c0, h.c1, h.c2, h.fz, h.od, h.ot, h.om, h.nd, h.nt, h.nm, h.dt, h.dm, h.tm⟩
/-- A list's slice, written out. -/
theorem own_slice {e : TypeId} {size n : Nat} {v : Value} {xs : List Value} (h : w.ownsRow base e size v n xs) : ∃ (a : Option Addr) (c : Nat), v = .slice a n c ∧ n ≤ c ∧ c ≤ maxLen ∧ (0 < n → ∃ g, a = some ⟨g, 0, none⟩) ∧ (a = none → c = 0) := by
  rcases h.2 with ⟨rfl, rfl⟩ | ⟨g, cap, cur, rfl, _, _, h1, h2, _⟩
  · exact ⟨none, 0, rfl, Nat.le_refl _, by unfold maxLen; omega, fun h => by omega, fun _ => rfl⟩
  · exact ⟨_, cap, rfl, h1, h2, fun _ => ⟨g, rfl⟩, fun h => by cases h⟩
theorem opt_ne {a b : Option Nat} (h : a = none ∨ a ≠ b) : b = none ∨ b ≠ a := by
  rcases h with rfl | h
  · cases b <;> simp
  · exact Or.inr (Ne.symm h)
theorem new_ne {d d' t : Option Nat} {s : Nat} (h : d = none ∨ d ≠ t) (hn : ∀ k, d' = some k → d = some k ∨ s ≤ k) (ht : ∀ k, t = some k → k < s) : d' = none ∨ d' ≠ t := by
  cases d' with
  | none => exact Or.inl rfl
  | some k =>
    refine Or.inr (fun e => ?_)
    rcases hn k rfl with h1 | h1
    · rcases h with h2 | h2
      · rw [h2] at h1; cases h1
      · exact h2 (h1.trans e)
    · have := ht k e.symm; omega
/-- One of the three lists has grown (v' as it is now, w1 behind it), and is laid into the stack's block. -/
theorem Stk.put_d {v' : Value} {w1 : World} {L' : List (ByteArray × Int)} (h : Stk w base K L T M) (hg : w.grownBy w1 K.dv.ownBlock) (ho : w1.ownsRow base 40 2 v' L'.length (dcells L')) (hn : ∀ k, v'.ownBlock = some k → K.dv.ownBlock = some k ∨ w.heap.size ≤ k) {w2 : World} (hb : Below w1.heap.size w1 w2) :
    Stk (w2.setCell ⟨K.B, 0, none⟩ v') base { K with dv := v' } L' T M ∧ Stp K w { K with dv := v' } (w2.setCell ⟨K.B, 0, none⟩ v') := by
  have hlt := h.lt
  have blk : ∀ x, x < w.heap.size → K.dv.ownBlock ≠ some x → w2.heap[x]? = w.heap[x]? := fun x hx hne => (hb.block x (Nat.lt_of_lt_of_le hx hg.size)).trans (hg.block x hx (fun e => hne e.symm))
  have cel : ∀ (p : Addr) (u : Value), w.cell? p = some u → K.dv.ownBlock ≠ some p.block → w2.cell? p = some u := fun p u hc hne => (World.cell?_of_block (w := w) (blk p.block (World.block_lt_of_cell? _ _ hc) hne)).trans hc
  have d0 := cel _ _ h.c0 h.nd
  have d1 := cel _ _ h.c1 h.nd
  have d2 := cel _ _ h.c2 h.nd
  have hf2 : ∀ o, w2.frozen? ⟨K.B, o, none⟩ = false := fun o => (World.frozen?_of_block (w := w) (a := ⟨K.B, o, none⟩) (blk K.B hlt h.nd)).trans (h.fz o)
  have nv : v'.ownBlock ≠ some K.B := fun e => by rcases hn _ e with h1 | h1; exact h.nd h1; omega
  have gs : w2.grownBy (w2.setCell ⟨K.B, 0, none⟩ v') (some K.B) := ⟨rfl, rfl, rfl, by simp, fun k _ hk => Below.heap_setCell _ _ _ _ (by intro e; exact hk (by rw [e]))⟩
  have sz : w.heap.size ≤ w2.heap.size := Nat.le_trans hg.size hb.size
  refine ⟨⟨h.up, World.cell?_setCell_same _ _ _ d0, (by rw [World.cell?_setCell_other _ _ _ _ (by simp)]; exact d1), (by rw [World.cell?_setCell_other _ _ _ _ (by simp)]; exact d2), fun o => by rw [World.frozen?_setCell]; exact hf2 o, (ho.kept (grown_below hb) (by cases v'.ownBlock <;> simp)).kept gs (Or.inr nv), ((h.ot.kept hg (opt_ne h.dt)).kept (grown_below hb) (by cases K.tv.ownBlock <;> simp)).kept gs (Or.inr h.nt), ((h.om.kept hg (opt_ne h.dm)).kept (grown_below hb) (by cases K.mv.ownBlock <;> simp)).kept gs (Or.inr h.nm), nv, h.nt, h.nm, (new_ne h.dt hn (fun k e => (World.ownsRow.lt h.ot k e).2)), (new_ne h.dm hn (fun k e => (World.ownsRow.lt h.om k e).2)), h.tm⟩, ?_⟩
  refine ⟨hb.os.trans hg.os, hb.tape.trans hg.tape, hb.output.trans hg.output, by simpa using sz, fun x hx hf => ⟨hf.b, (fun e => by rcases hn _ e with h1 | h1; exact hf.d h1; omega), hf.t, hf.m⟩, fun x hx hf => ?_⟩
  rw [Below.heap_setCell _ _ _ _ (fun e => hf.b (by rw [e]))]
  exact blk x hx hf.d
/-- One of the three lists has grown (v' as it is now, w1 behind it), and is laid into the stack's block. -/
theorem Stk.put_t {v' : Value} {w1 : World} {T' : List Lt} (h : Stk w base K L T M) (hg : w.grownBy w1 K.tv.ownBlock) (ho : w1.ownsRow base 50 5 v' T'.length (tcells T')) (hn : ∀ k, v'.ownBlock = some k → K.tv.ownBlock = some k ∨ w.heap.size ≤ k) {w2 : World} (hb : Below w1.heap.size w1 w2) :
    Stk (w2.setCell ⟨K.B, 1, none⟩ v') base { K with tv := v' } L T' M ∧ Stp K w { K with tv := v' } (w2.setCell ⟨K.B, 1, none⟩ v') := by
  have hlt := h.lt
  have blk : ∀ x, x < w.heap.size → K.tv.ownBlock ≠ some x → w2.heap[x]? = w.heap[x]? := fun x hx hne => (hb.block x (Nat.lt_of_lt_of_le hx hg.size)).trans (hg.block x hx (fun e => hne e.symm))
  have cel : ∀ (p : Addr) (u : Value), w.cell? p = some u → K.tv.ownBlock ≠ some p.block → w2.cell? p = some u := fun p u hc hne => (World.cell?_of_block (w := w) (blk p.block (World.block_lt_of_cell? _ _ hc) hne)).trans hc
  have d0 := cel _ _ h.c0 h.nt
  have d1 := cel _ _ h.c1 h.nt
  have d2 := cel _ _ h.c2 h.nt
  have hf2 : ∀ o, w2.frozen? ⟨K.B, o, none⟩ = false := fun o => (World.frozen?_of_block (w := w) (a := ⟨K.B, o, none⟩) (blk K.B hlt h.nt)).trans (h.fz o)
  have nv : v'.ownBlock ≠ some K.B := fun e => by rcases hn _ e with h1 | h1; exact h.nt h1; omega
  have gs : w2.grownBy (w2.setCell ⟨K.B, 1, none⟩ v') (some K.B) := ⟨rfl, rfl, rfl, by simp, fun k _ hk => Below.heap_setCell _ _ _ _ (by intro e; exact hk (by rw [e]))⟩
  have sz : w.heap.size ≤ w2.heap.size := Nat.le_trans hg.size hb.size
  refine ⟨⟨h.up, (by rw [World.cell?_setCell_other _ _ _ _ (by simp)]; exact d0), World.cell?_setCell_same _ _ _ d1, (by rw [World.cell?_setCell_other _ _ _ _ (by simp)]; exact d2), fun o => by rw [World.frozen?_setCell]; exact hf2 o, ((h.od.kept hg h.dt).kept (grown_below hb) (by cases K.dv.ownBlock <;> simp)).kept gs (Or.inr h.nd), (ho.kept (grown_below hb) (by cases v'.ownBlock <;> simp)).kept gs (Or.inr nv), ((h.om.kept hg (opt_ne h.tm)).kept (grown_below hb) (by cases K.mv.ownBlock <;> simp)).kept gs (Or.inr h.nm), h.nd, nv, h.nm, (opt_ne (new_ne (opt_ne h.dt) hn (fun k e => (World.ownsRow.lt h.od k e).2))), h.dm, (new_ne h.tm hn (fun k e => (World.ownsRow.lt h.om k e).2))⟩, ?_⟩
  refine ⟨hb.os.trans hg.os, hb.tape.trans hg.tape, hb.output.trans hg.output, by simpa using sz, fun x hx hf => ⟨hf.b, hf.d, (fun e => by rcases hn _ e with h1 | h1; exact hf.t h1; omega), hf.m⟩, fun x hx hf => ?_⟩
  rw [Below.heap_setCell _ _ _ _ (fun e => hf.b (by rw [e]))]
  exact blk x hx hf.t
/-- One of the three lists has grown (v' as it is now, w1 behind it), and is laid into the stack's block. -/
theorem Stk.put_m {v' : Value} {w1 : World} {M' : List (Nat × Nat)} (h : Stk w base K L T M) (hg : w.grownBy w1 K.mv.ownBlock) (ho : w1.ownsRow base 101 4 v' M'.length (mcells M')) (hn : ∀ k, v'.ownBlock = some k → K.mv.ownBlock = some k ∨ w.heap.size ≤ k) {w2 : World} (hb : Below w1.heap.size w1 w2) :
    Stk (w2.setCell ⟨K.B, 2, none⟩ v') base { K with mv := v' } L T M' ∧ Stp K w { K with mv := v' } (w2.setCell ⟨K.B, 2, none⟩ v') := by
  have hlt := h.lt
  have blk : ∀ x, x < w.heap.size → K.mv.ownBlock ≠ some x → w2.heap[x]? = w.heap[x]? := fun x hx hne => (hb.block x (Nat.lt_of_lt_of_le hx hg.size)).trans (hg.block x hx (fun e => hne e.symm))
  have cel : ∀ (p : Addr) (u : Value), w.cell? p = some u → K.mv.ownBlock ≠ some p.block → w2.cell? p = some u := fun p u hc hne => (World.cell?_of_block (w := w) (blk p.block (World.block_lt_of_cell? _ _ hc) hne)).trans hc
  have d0 := cel _ _ h.c0 h.nm
  have d1 := cel _ _ h.c1 h.nm
  have d2 := cel _ _ h.c2 h.nm
  have hf2 : ∀ o, w2.frozen? ⟨K.B, o, none⟩ = false := fun o => (World.frozen?_of_block (w := w) (a := ⟨K.B, o, none⟩) (blk K.B hlt h.nm)).trans (h.fz o)
  have nv : v'.ownBlock ≠ some K.B := fun e => by rcases hn _ e with h1 | h1; exact h.nm h1; omega
  have gs : w2.grownBy (w2.setCell ⟨K.B, 2, none⟩ v') (some K.B) := ⟨rfl, rfl, rfl, by simp, fun k _ hk => Below.heap_setCell _ _ _ _ (by intro e; exact hk (by rw [e]))⟩
  have sz : w.heap.size ≤ w2.heap.size := Nat.le_trans hg.size hb.size
  refine ⟨⟨h.up, (by rw [World.cell?_setCell_other _ _ _ _ (by simp)]; exact d0), (by rw [World.cell?_setCell_other _ _ _ _ (by simp)]; exact d1), World.cell?_setCell_same _ _ _ d2, fun o => by rw [World.frozen?_setCell]; exact hf2 o, ((h.od.kept hg h.dm).kept (grown_below hb) (by cases K.dv.ownBlock <;> simp)).kept gs (Or.inr h.nd), ((h.ot.kept hg h.tm).kept (grown_below hb) (by cases K.tv.ownBlock <;> simp)).kept gs (Or.inr h.nt), (ho.kept (grown_below hb) (by cases v'.ownBlock <;> simp)).kept gs (Or.inr nv), h.nd, h.nt, nv, h.dt, (opt_ne (new_ne (opt_ne h.dm) hn (fun k e => (World.ownsRow.lt h.od k e).2))), (opt_ne (new_ne (opt_ne h.tm) hn (fun k e => (World.ownsRow.lt h.ot k e).2)))⟩, ?_⟩
  refine ⟨hb.os.trans hg.os, hb.tape.trans hg.tape, hb.output.trans hg.output, by simpa using sz, fun x hx hf => ⟨hf.b, hf.d, hf.t, (fun e => by rcases hn _ e with h1 | h1; exact hf.m h1; omega)⟩, fun x hx hf => ?_⟩
  rw [Below.heap_setCell _ _ _ _ (fun e => hf.b (by rw [e]))]
  exact blk x hx hf.m
/-- What is written anew into the marks as it was leaves the stack as it was. -/
theorem Stk.mset {w : World} {base : Nat} {K : SK} {L : List (ByteArray × Int)} {T : List Lt} {M : List (Nat × Nat)} (h : Stk w base K L T M) {g n c j : Nat} {v : Value} (hmv : K.mv = .slice (some ⟨g, 0, none⟩) n c) (hv : (mcells M)[j]? = some v) :
    Stk (w.setCell ⟨g, j, none⟩ v) base K L T M ∧ Stp K w K (w.setCell ⟨g, j, none⟩ v) := by
  have hom := h.om
  rw [hmv] at hom
  have hn : n = M.length := by
    rcases hom.2 with ⟨e, _⟩ | ⟨g', cap, cur, e, _⟩
    · cases e
    · simp only [Value.slice.injEq] at e; exact e.2.1
  subst hn
  obtain ⟨s1, s2⟩ := hom.stored j v
  rw [set_same _ _ _ hv, ← hmv] at s1
  have hgB : g ≠ K.B := fun e => h.nm (by rw [hmv]; simp [Value.ownBlock, e])
  have blk : ∀ x, x ≠ g → (w.setCell ⟨g, j, none⟩ v).heap[x]? = w.heap[x]? := fun x hx => Below.heap_setCell _ _ _ _ (by intro e; exact hx e)
  refine ⟨⟨h.up, ?_, ?_, ?_, fun o => by rw [World.frozen?_setCell]; exact h.fz o, h.od.kept s2 ?_, h.ot.kept s2 ?_, s1, h.nd, h.nt, h.nm, h.dt, h.dm, h.tm⟩, ⟨rfl, rfl, rfl, by simp, fun _ _ hf => hf, fun x _ hf => blk x (fun e => hf.m (by rw [hmv]; simp [Value.ownBlock, e]))⟩⟩
  · rw [World.cell?_setCell_other _ _ _ _ (by intro e; injection e with e1; exact hgB e1)]; exact h.c0
  · rw [World.cell?_setCell_other _ _ _ _ (by intro e; injection e with e1; exact hgB e1)]; exact h.c1
  · rw [World.cell?_setCell_other _ _ _ _ (by intro e; injection e with e1; exact hgB e1)]; exact h.c2
  · rcases h.dm with e | e
    · exact Or.inl e
    · right; rw [hmv] at e; simpa [Value.ownBlock] using e
  · rcases h.tm with e | e
    · exact Or.inl e
    · right; rw [hmv] at e; simpa [Value.ownBlock] using e
set_option maxRecDepth 100000 in
set_option maxHeartbeats 2000000 in
theorem last_any (w : World) (base : Nat) (K : SK) (L : List (ByteArray × Int)) (T : List Lt) (M : List (Nat × Nat)) (h : Stk w base K L T M) (hM : 0 < M.length) (h9 : M.length ≤ 100) :
    Calls Tryz.prog 71 #[.pointer (some ⟨K.B, 0, none⟩)] w fun e w' => (∃ g c, K.mv = .slice (some ⟨g, 0, none⟩) M.length c ∧ e = .returned (.pointer (some ⟨g, (M.length - 1) * 4, none⟩))) ∧ Below w.heap.size w w' := by
  obtain ⟨ma, mc, hmv, m1, m2, m3, _⟩ := own_slice h.om
  obtain ⟨g, rfl⟩ := m3 hM
  have c2 := h.c2
  rw [hmv] at c2
  have HMV := hide hmv
  have hlt := h.lt
  unfold maxLen at m2
  clear h hmv m3
  go_enter Tryz.func71, Tryz.ntmps71
  go_wp2
  go_region
  all_goals go_wp2
  all_goals go_ret
  all_goals exact ⟨⟨g, mc, unhide HMV, rfl⟩, by first | exact Below.refl _ _ | exact (Below.refl _ _).drew⟩
theorem Stp.grown {K : SK} {w w1 w2 : World} {v : Value} (hg : w.grownBy w1 v.ownBlock) (hv : v = K.dv ∨ v = K.tv ∨ v = K.mv) (hb : Below w1.heap.size w1 w2) : Stp K w K w2 :=
  ⟨hb.os.trans hg.os, hb.tape.trans hg.tape, hb.output.trans hg.output, Nat.le_trans hg.size hb.size, fun _ _ h => h, fun x hx hf => (hb.block x (Nat.lt_of_lt_of_le hx hg.size)).trans (hg.block x hx (fun e => by
    rcases hv with rfl | rfl | rfl
    · exact hf.d e.symm
    · exact hf.t e.symm
    · exact hf.m e.symm))⟩
/-- One name more. -/
theorem dec_one (w : World) (base : Nat) (v : Value) (L : List (ByteArray × Int)) (p : ByteArray × Int) (Tb : Nat) (hown : w.ownsRow base 40 2 v L.length (dcells L)) (h0 : w.cell? ⟨Tb, 0, none⟩ = some (.string p.1)) (h1 : w.cell? ⟨Tb, 1, none⟩ = some (.int .i64 p.2)) (hk : L.length ≤ 2000000) (hbase : base ≤ w.heap.size) :
    ∃ g' cap' w', (Builtin.append_ #[29, 29] 29 #[v, .slice (some ⟨Tb, 0, none⟩) 1 1]).run Tryz.prog w = .ok (.slice (some ⟨g', 0, none⟩) (L.length + 1) cap') w' ∧ w'.ownsRow base 40 2 (.slice (some ⟨g', 0, none⟩) (L.length + 1) cap') (L ++ [p]).length (dcells (L ++ [p])) ∧ w.grownBy w' v.ownBlock ∧ (v.ownBlock = some g' ∨ w.heap.size ≤ g') := by
  obtain ⟨i0, hi0, hzz⟩ := Option.map_eq_some_iff.1 infoDeclS
  simp only [Prod.mk.injEq] at hzz
  obtain ⟨hz0, hz1, hz2⟩ := hzz
  rw [dcells_app, List.length_append, List.length_singleton]
  exact append_any (P := Tryz.prog) w base 29 29 40 i0 _ 2 24 Tryz.underlying29 hi0 hz0 hz1 hz2 rfl (by omega) v L.length (dcells L) hown ⟨Tb, 0, none⟩ 1 1 (dcells [p]) rfl (dcells_lie (fun i hi => by
    have e : i = 0 := by simpa using hi
    subst e
    exact ⟨h0, h1⟩)) dcells_cell (by omega) (by unfold maxLen; omega) (by omega) hbase
set_option maxRecDepth 100000 in
set_option maxHeartbeats 8000000 in
theorem name_any (w : World) (base : Nat) (K : SK) (L : List (ByteArray × Int)) (T : List Lt) (M : List (Nat × Nat)) (s : ByteArray) (v : Int) (h : Stk w base K L T M) (hM : 0 < M.length) (hM6 : M.length ≤ 6) (hb : base ≤ w.heap.size) (hL : L.length ≤ 1048575) (hs : SmL 1048576 (L ++ [(s, v)])) :
    Calls Tryz.prog 54 #[.pointer (some ⟨K.B, 0, none⟩), .agg #[.string s, .int .i64 v]] w fun e w' => e = .returned (.bool (declB (L ++ [(s, v)]).length (sL (L ++ [(s, v)])) (vL (L ++ [(s, v)])))) ∧ ∃ K', K'.B = K.B ∧ Stp K w K' w' ∧ (DeclL (L ++ [(s, v)]) → Stk w' base K' (L ++ [(s, v)]) T M) := by
  obtain ⟨da, dc, hdv, d1, _⟩ := own_slice h.od
  have hlt := h.lt
  obtain ⟨wb, hwb⟩ : ∃ x, x = w.alloc (.cells #[.string s, .int .i64 v] 40) := ⟨_, rfl⟩
  have bb : Below w.heap.size w wb := by rw [hwb]; exact (Below.refl _ _).alloc (Nat.le_refl _) _
  have x0 : wb.cell? ⟨w.heap.size, 0, none⟩ = some (.string s) := by rw [hwb]; simp [go_sem]
  have x1 : wb.cell? ⟨w.heap.size, 1, none⟩ = some (.int .i64 v) := by rw [hwb]; simp [go_sem]
  have lb : w.heap.size < wb.heap.size := by rw [hwb]; simp
  obtain ⟨wt, hwt⟩ : ∃ x, x = wb.drew.alloc (.cells #[.string s, .int .i64 v] 40) := ⟨_, rfl⟩
  have bt : Below wb.heap.size wb wt := by rw [hwt]; exact (Below.refl _ _).drew.alloc (Nat.le_refl _) _
  have q0 : wt.cell? ⟨wb.heap.size, 0, none⟩ = some (.string s) := by rw [hwt]; exact World.cell?_alloc_new wb.drew _ _ _
  have q1 : wt.cell? ⟨wb.heap.size, 1, none⟩ = some (.int .i64 v) := by rw [hwt]; exact World.cell?_alloc_new wb.drew _ _ _
  have bt' := bb.trans (bt.mono bb.size)
  have ht := h.later bt'
  have hB := h.later bb
  have c0 := hB.c0
  rw [hdv] at c0
  obtain ⟨g, cp, w1, run, o1, g1, a1⟩ := dec_one wt base K.dv L (s, v) wb.heap.size ht.od q0 q1 (by omega) (Nat.le_trans hb bt'.size)
  have hg : w.grownBy w1 K.dv.ownBlock := grown_trans (⟨bt'.os, bt'.tape, bt'.output, bt'.size, fun k hk _ => bt'.block k hk⟩ : w.grownBy wt K.dv.ownBlock) g1
  have HN : Hid (∀ k, (Value.slice (some ⟨g, 0, none⟩) (L.length + 1) cp).ownBlock = some k → K.dv.ownBlock = some k ∨ w.heap.size ≤ k) := fun k e => by
    simp only [Value.ownBlock, Option.some.injEq] at e
    subst e
    rcases a1 with e | e
    · exact Or.inl e
    · exact Or.inr (Nat.le_trans bt'.size e)
  have o1' := o1
  rw [List.length_append, List.length_singleton] at o1'
  have DN := hide (own_decl o1' (by simp))
  have gl := (own_cap o1').2
  have gc := (own_cap o1').1
  have hs' : Hid (∀ i, i < L.length + 1 → (sL (L ++ [(s, v)]) i).size ≤ 1048576) := fun i hi => hs i (by simp; omega)
  have e0 : w1.cell? ⟨K.B, 0, none⟩ = some (.slice da L.length dc) := by
    rw [← hdv]
    exact (World.cell?_of_block (w := w) (a := ⟨K.B, 0, none⟩) (hg.block K.B hlt (fun e => h.nd e.symm))).trans h.c0
  have f0 : w1.frozen? ⟨K.B, 0, none⟩ = false := (World.frozen?_of_block (w := w) (a := ⟨K.B, 0, none⟩) (hg.block K.B hlt (fun e => h.nd e.symm))).trans (h.fz 0)
  have hl1 : (L ++ [(s, v)]).length = L.length + 1 := by simp
  have hlt1 : K.B < w1.heap.size := World.block_lt_of_cell? _ _ e0
  rw [hdv, hwt] at run
  have HRun := hide run
  have HO := hide o1
  have HG := hide hg
  have HK := hide h
  have hlb : K.B < wb.heap.size := by omega
  have HWB := hide hwb
  rw [hl1]
  obtain ⟨SS, hSS⟩ : ∃ x, x = sL (L ++ [(s, v)]) := ⟨_, rfl⟩
  obtain ⟨VV, hVV⟩ : ∃ x, x = vL (L ++ [(s, v)]) := ⟨_, rfl⟩
  rw [← hSS, ← hVV] at DN ⊢
  rw [← hSS] at hs'
  have HDP : Hid (declB (L.length + 1) SS VV = true ↔ DeclL (L ++ [(s, v)])) := by
    show _ ↔ _
    unfold DeclL
    rw [hl1, hSS, hVV, declB_iff]
  clear run o1 o1' hg h hB ht q0 q1 bt bt' hwt hwb a1 g1 hdv hs hSS hVV
  go_enter Tryz.func54, Tryz.ntmps54
  go_wp2_with fail
  rw [← unhide HWB]
  go_cut [5] (fun s5 wx => s5 = .slice (some ⟨g, 0, none⟩) (L.length + 1) cp ∧ wx = w1)
  case first =>
    go_region_law (refine step_append_ex rfl _ _ _ rfl _ _ rfl rfl _ _ (unhide HRun) ?_)
    all_goals go_wp2_with fail
    all_goals go_meet
    all_goals exact ⟨rfl, rfl⟩
  case rest =>
    obtain ⟨rfl, rfl⟩ := hcut
    clear HRun x0 x1 HWB c0 bb lb hlb
    go_wp2_with fail
    refine (iDeclOk_any g 0 (L.length + 1) cp SS VV wc gl (unhide DN) gc (by omega) (unhide hs')).mono ?_
    rintro e w2 ⟨rfl, b2⟩
    replace f0 := (b2.frozen (p := ⟨K.B, 0, none⟩) hlt1).trans f0
    replace e0 := cell_later b2 e0
    cases hv : declB (L.length + 1) SS VV
    · have HNo : Hid (¬ DeclL (L ++ [(s, v)])) := fun hd => by
        have := (unhide HDP).2 hd
        rw [hv] at this; cases this
      have HP := hide (Stp.grown (K := K) (unhide HG) (Or.inl rfl) b2)
      go_wp2
      go_ret
      exact ⟨by rw [hv]; rfl, K, rfl, unhide HP, fun hd => absurd hd (unhide HNo)⟩
    · obtain ⟨S3, P3⟩ := (unhide HK).put_d (unhide HG) (unhide HO) (unhide HN) b2
      obtain ⟨w3, hw3⟩ : ∃ x, x = w2.setCell ⟨K.B, 0, none⟩ (.slice (some ⟨g, 0, none⟩) (L.length + 1) cp) := ⟨_, rfl⟩
      rw [← hw3] at S3 P3
      have HS := hide S3
      have HP := hide P3
      have HW3 := hide hw3
      obtain ⟨K1, hK1⟩ : ∃ x, x = ({ K with dv := .slice (some ⟨g, 0, none⟩) (L.length + 1) cp } : SK) := ⟨_, rfl⟩
      rw [← hK1] at HS HP
      have hB1 : K1.B = K.B := by rw [hK1]
      have HB1 := hide hB1
      clear S3 P3 hw3 hK1
      go_wp2_with fail
      rw [← unhide HW3, ← hB1]
      refine (last_any w3 base K1 (L ++ [(s, v)]) T M (unhide HS) hM (by omega)).mono ?_
      rintro e w4 ⟨⟨g2, c2, hmv, rfl⟩, b4⟩
      have HS4 := hide ((unhide HS).later b4)
      have HP4 := hide ((unhide HP).trans (Stp.of b4))
      obtain ⟨m, hm⟩ : ∃ m, M.length = m + 1 := ⟨M.length - 1, by omega⟩
      have hm4 := mcells_at M m 2 (by omega) (by omega)
      have hm5 := mcells_at M m 3 (by omega) (by omega)
      have om := (unhide HS4).om
      rw [hmv] at om
      have k2 := om.cellAt (m * 4 + 2) (by omega)
      have k3 := om.cellAt (m * 4 + 3) (by omega)
      have y2 := om.frozenAt (m * 4 + 2)
      have y3 := om.frozenAt (m * 4 + 3)
      rw [hm4] at k2
      rw [hm5] at k3
      simp only [mcell, List.getElem?_cons_succ, List.getElem?_cons_zero] at k2 k3 hm4 hm5
      obtain ⟨S5, P5⟩ := (unhide HS4).mset hmv hm4
      obtain ⟨S6, P6⟩ := S5.mset hmv hm5
      have HS6 := hide S6
      have HP6 := hide (((unhide HP4).trans P5).trans P6)
      have e1 : (M.length - 1) * 4 = m * 4 := by omega
      rw [e1]
      clear S5 S6 P5 P6 om hm4 hm5 hmv HS HP HS4 HP4 b4 e1
      go_wp2
      go_ret
      exact ⟨by rw [hv]; rfl, K1, unhide HB1, unhide HP6, fun _ => unhide HS6⟩
theorem heap_setCell_at (w : World) (p : Addr) (u : Value) : (w.setCell p u).heap[p.block]? = (w.heap[p.block]?).map (fun x => match x with | .cells c elem frozen => .cells (if p.spot.isSome then c else c.setIfInBounds p.off u) elem frozen | o => o) := by
  simp [World.setCell, Array.getElem?_modify]
  rfl
theorem setCell_comm (w : World) {p q : Addr} (h : p.block ≠ q.block) (u v : Value) : (w.setCell p u).setCell q v = (w.setCell q v).setCell p u := by
  have hh : ((w.setCell p u).setCell q v).heap = ((w.setCell q v).setCell p u).heap := by
    apply Array.ext_getElem?
    intro i
    by_cases e1 : i = p.block
    · subst e1
      rw [Below.heap_setCell _ _ _ _ (by exact fun e => h e), heap_setCell_at, heap_setCell_at, Below.heap_setCell _ _ _ _ (by exact fun e => h e)]
    · by_cases e2 : i = q.block
      · subst e2
        rw [heap_setCell_at, Below.heap_setCell _ _ _ _ (by exact fun e => e1 e), Below.heap_setCell _ _ _ _ (by exact fun e => e1 e), heap_setCell_at]
      · rw [Below.heap_setCell _ _ _ _ (by exact fun e => e2 e), Below.heap_setCell _ _ _ _ (by exact fun e => e1 e), Below.heap_setCell _ _ _ _ (by exact fun e => e1 e), Below.heap_setCell _ _ _ _ (by exact fun e => e2 e)]
  have e : ∀ (a : World) (r : Addr) (x : Value), a.setCell r x = { a with heap := (a.setCell r x).heap } := fun _ _ _ => rfl
  rw [e (w.setCell p u) q v, hh]
  rfl
theorem withGo1 {P : Program} {md : Region.Mode} {ops : Array Oper} {Q : Exit → Act → World → Prop} {f : Nat} {l : Array Bool} {a : Act} {w : World} (h : ∀ (Go : Nat → Array Bool → Act → World → Prop) (a0 : Act), Hid (Go = wpAny P md ops Q) → Hid (a0 = a) → Go f l a0 w) : wpAny P md ops Q f l a w := h _ _ rfl rfl
theorem goTo1 {Go : Nat → Array Bool → Act → World → Prop} {f f' : Nat} {l l' : Array Bool} {a a' : Act} {w w' : World} (H : Go f' l' a' w') (hf : f = f') (hl : l = l') (ha : a = a') (hw : w = w') : Go f l a w := by subst hf hl ha hw; exact H
/-- No term, as it is laid down ahead of one. -/
def zlt : Lt := (.node 0 0 0 ⟨#[]⟩ 0 (fun _ => .nil), none, 0)
theorem tcells_put (T : List Lt) (p : Lt) : (((((tcells (T ++ [zlt])).set (T.length * 5) (.int .i64 p.1.op)).set (T.length * 5 + 1) (.int .i64 p.1.a)).set (T.length * 5 + 2) (.int .i64 p.1.b)).set (T.length * 5 + 3) (.string p.1.s)).set (T.length * 5 + 4) (.slice p.2.1 p.1.n p.2.2) = tcells (T ++ [p]) := by
  have hl := tcells_size T
  have hz : tcells [zlt] = [.int .i64 0, .int .i64 0, .int .i64 0, .string ⟨#[]⟩, .slice none 0 0] := rfl
  have hp : tcells [p] = [.int .i64 p.1.op, .int .i64 p.1.a, .int .i64 p.1.b, .string p.1.s, .slice p.2.1 p.1.n p.2.2] := by simp [tcells, tcell]
  rw [tcells_app, tcells_app, hz, hp]
  simp [List.set_append, hl]
/-- One term more. -/
theorem term_one (w : World) (base : Nat) (v : Value) (T : List Lt) (p : Lt) (Tb : Nat) (hown : w.ownsRow base 50 5 v T.length (tcells T)) (h0 : Five w Tb 0 p.1 p.2.1 p.2.2) (hk : T.length ≤ 2000000) (hbase : base ≤ w.heap.size) :
    ∃ g' cap' w', (Builtin.append_ #[48, 48] 48 #[v, .slice (some ⟨Tb, 0, none⟩) 1 1]).run Tryz.prog w = .ok (.slice (some ⟨g', 0, none⟩) (T.length + 1) cap') w' ∧ w'.ownsRow base 50 5 (.slice (some ⟨g', 0, none⟩) (T.length + 1) cap') (T.length + 1) (tcells (T ++ [p])) ∧ w.grownBy w' v.ownBlock ∧ (v.ownBlock = some g' ∨ w.heap.size ≤ g') := by
  obtain ⟨i0, hi0, hzz⟩ := Option.map_eq_some_iff.1 infoTermS
  simp only [Prod.mk.injEq] at hzz
  obtain ⟨hz0, hz1, hz2⟩ := hzz
  rw [tcells_app]
  exact append_any (P := Tryz.prog) w base 48 48 50 i0 _ 5 64 Tryz.underlying48 hi0 hz0 hz1 hz2 rfl (by omega) v T.length (tcells T) hown ⟨Tb, 0, none⟩ 1 1 (tcells [p]) (by simp [tcells, tcell]) (tcells_lie (fun i hi => by
    have e : i = 0 := by simpa using hi
    subst e
    exact h0)) tcells_cell (by omega) (by unfold maxLen; omega) (by omega) hbase
/-- The names of a stack, as TermSort takes them. -/
theorem Stk.names {w : World} {base : Nat} {K : SK} {L : List (ByteArray × Int)} {T : List Lt} {M : List (Nat × Nat)} (h : Stk w base K L T M) : ∃ da dc bd, K.dv = .slice da L.length dc ∧ L.length ≤ dc ∧ (0 < L.length → da = some ⟨bd, 0, none⟩) ∧ bd < w.heap.size ∧ Decs w bd 0 L.length (sL L) (vL L) := by
  obtain ⟨da, dc, hdv, d1, _, d3, _⟩ := own_slice h.od
  by_cases h0 : 0 < L.length
  · obtain ⟨g, rfl⟩ := d3 h0
    have := h.od
    rw [hdv] at this
    exact ⟨_, dc, g, hdv, d1, fun _ => rfl, (own_cap this).2, own_decl this rfl⟩
  · exact ⟨da, dc, K.B, hdv, d1, fun h => absurd h h0, h.lt, fun i hi => by omega⟩
set_option maxRecDepth 100000 in
set_option maxHeartbeats 8000000 in
theorem assert_any (hi : Nat) (w : World) (base : Nat) (K : SK) (L : List (ByteArray × Int)) (T : List Lt) (M : List (Nat × Nat)) (t : TT) (ad : Option Addr) (cpt : Nat) (h : Stk w base K L T M) (hM : 0 < M.length) (hM6 : M.length ≤ 6) (hb : base ≤ w.heap.size) (hL : L.length ≤ 1048576) (hs : SmL 1048576 L) (hT : T.length ≤ 8) (hin : t.In w 0 hi ad) (hf : t.Fit 1048576) (hhi : hi ≤ w.heap.size) :
    Calls Tryz.prog 59 #[.pointer (some ⟨K.B, 0, none⟩), .agg #[.int .i64 t.op, .int .i64 t.a, .int .i64 t.b, .string t.s, .slice ad t.n cpt]] w fun e w' => e = .returned (.bool (decide (T.length ≠ 8) && (tsL L t == 0))) ∧ ∃ K', K'.B = K.B ∧ Stp K w K' w' ∧ (T.length ≠ 8 → tsL L t = 0 → Stk w' base K' L (T ++ [(t, ad, cpt)]) M) := by
  obtain ⟨z, hz⟩ : ∃ z, z = tsL L t := ⟨_, rfl⟩
  have HZ := hide hz
  rw [← hz]
  have hlt := h.lt
  obtain ⟨wb, hwb⟩ : ∃ x, x = w.alloc (.cells #[.int .i64 t.op, .int .i64 t.a, .int .i64 t.b, .string t.s, .slice ad t.n cpt] 50) := ⟨_, rfl⟩
  have bb : Below w.heap.size w wb := by rw [hwb]; exact (Below.refl _ _).alloc (Nat.le_refl _) _
  have X : Five wb w.heap.size 0 t ad cpt := by rw [hwb]; exact ⟨by simp [go_sem], by simp [go_sem], by simp [go_sem], by simp [go_sem], by simp [go_sem]⟩
  have HKb := hide (h.later bb)
  have Pb := hide (Stp.of (K := K) bb)
  have HI := hide (hin.later (bb.mono hhi))
  have HWB := hide hwb
  have hhb := Nat.le_trans hhi bb.size
  have hbb := Nat.le_trans hb bb.size
  obtain ⟨da, dc, bd, hdv, d1, d2, d3, d4⟩ := (unhide HKb).names
  obtain ⟨ta, tc, htv, t1, t2, t3, t4⟩ := own_slice h.ot
  have c0 := (unhide HKb).c0
  have c1 := (unhide HKb).c1
  rw [hdv] at c0
  rw [htv] at c1
  have D4 := hide d4
  have HSm : Hid (∀ i, i < L.length → (sL L i).size ≤ 1048576) := hs
  clear h hin hs hz hwb bb d4
  go_enter Tryz.func59, Tryz.ntmps59
  go_wp2_with fail
  rw [← unhide HWB]
  clear HWB
  go_cut [19] (fun s19 wx => s19 = .bool (!(decide (T.length ≠ 8) && (z == 0))) ∧ Below wb.heap.size wb wx)
  case first =>
    by_cases h8 : T.length = 8
    · have k8 : ((T.length : Int) == 8) = true := by simp; omega
      have HR : Hid ((!(decide (T.length ≠ 8) && (z == 0))) = true) := by show _ = _; simp [h8]
      clear h8
      go_region
      all_goals go_wp2_with fail
      all_goals go_meet
      all_goals exact ⟨by rw [unhide HR], by first | exact Below.refl _ _ | exact (Below.refl _ _).drew⟩
    · have k8 : ((T.length : Int) == 8) = false := by simp; omega
      have HR : Hid ((!(decide (T.length ≠ 8) && (z == 0))) = (z != 0)) := by show _ = _; simp [h8, bne]
      have hb0 : Below wb.heap.size wb wb := Below.refl _ _
      obtain ⟨x0, x1, x2, x3, x4⟩ := id X
      have H8 := hide h8
      clear h8
      go_region_held3 (fun w' => w'.cell? ⟨K.B, 0, none⟩ = some (.slice da L.length dc) ∧ w'.cell? ⟨K.B, 1, none⟩ = some (.slice ta T.length tc) ∧ w'.cell? ⟨w.heap.size, 0, none⟩ = some (.int .i64 t.op) ∧ w'.cell? ⟨w.heap.size, 1, none⟩ = some (.int .i64 t.a) ∧ w'.cell? ⟨w.heap.size, 2, none⟩ = some (.int .i64 t.b) ∧ w'.cell? ⟨w.heap.size, 3, none⟩ = some (.string t.s) ∧ w'.cell? ⟨w.heap.size, 4, none⟩ = some (.slice ad t.n cpt)) (first | go_keep | exact ⟨c0, c1, X.1, X.2.1, X.2.2.1, X.2.2.2.1, X.2.2.2.2⟩ | (refine ⟨?_, ?_, ?_, ?_, ?_, ?_, ?_⟩ <;> assumption))
        (first | (go_at_call 72; refine (iTermSortD_any bd 0 L.length dc hi (sL L) (vL L) hL d1 (unhide HSm) t ad cpt _ (by first | exact unhide HI | exact (unhide HI).drew) hf (by exact hhb) (by exact d3) (by exact unhide D4) d2).mono ?_; rintro e wq ⟨rfl, bq⟩; rw [show tsort L.length (sL L) (vL L) t = z from (unhide HZ).symm]; have BL := (by first | exact hb0.trans (bq.mono hb0.size) | exact hb0.drew.trans (bq.mono hb0.size)); have X := Five.later (by exact X) bq; have c0 := cell_later bq (by exact c0); have c1 := cell_later bq (by exact c1); obtain ⟨x0, x1, x2, x3, x4⟩ := id X))
      all_goals go_wp2_with fail
      all_goals go_meet
      all_goals exact ⟨by rw [unhide HR], by first | exact BL | exact BL.drew⟩
  case rest =>
    obtain ⟨rfl, bx⟩ := hcut
    obtain ⟨wA, rfl⟩ : ∃ z, z = wc := ⟨_, rfl⟩
    have HA := hide ((unhide HKb).later bx)
    have PA := hide ((unhide Pb).trans (Stp.of bx))
    replace X := X.later bx
    replace c1 := cell_later bx c1
    have hbA := Nat.le_trans hbb bx.size
    have lx : w.heap.size < wA.heap.size := World.block_lt_of_cell? _ _ X.1
    clear HKb Pb HI D4 c0 bx d2 d3
    cases hr : (decide (T.length ≠ 8) && (z == 0))
    · have HNo : Hid (¬ (T.length ≠ 8 ∧ z = 0)) := fun hh => by
        simp [hh.1, hh.2] at hr
      go_wp2
      go_ret
      exact ⟨by rw [hr]; rfl, K, rfl, unhide PA, fun h1 h2 => absurd ⟨h1, h2⟩ (unhide HNo)⟩
    · have hltA := (unhide HA).lt
      obtain ⟨wt, hwt⟩ : ∃ x, x = wA.drew.alloc (.cells #[.int .i64 0, .int .i64 0, .int .i64 0, .string ⟨#[]⟩, .slice none 0 0] 50) := ⟨_, rfl⟩
      have bt : Below wA.heap.size wA wt := by rw [hwt]; exact (Below.refl _ _).drew.alloc (Nat.le_refl _) _
      have ZF : Five wt wA.heap.size 0 zlt.1 zlt.2.1 zlt.2.2 := by
        rw [hwt]
        exact ⟨World.cell?_alloc_new wA.drew _ _ _, World.cell?_alloc_new wA.drew _ _ _, World.cell?_alloc_new wA.drew _ _ _, World.cell?_alloc_new wA.drew _ _ _, World.cell?_alloc_new wA.drew _ _ _⟩
      have hAt := (unhide HA).later bt
      obtain ⟨g, cp, w1, run, o1, g1, a1⟩ := term_one wt base K.tv T zlt wA.heap.size hAt.ot ZF (by omega) (Nat.le_trans hbA bt.size)
      have hg1 : wA.grownBy w1 K.tv.ownBlock := grown_trans (⟨bt.os, bt.tape, bt.output, bt.size, fun k hk _ => bt.block k hk⟩ : wA.grownBy wt K.tv.ownBlock) g1
      have hN : ∀ k, (Value.slice (some ⟨g, 0, none⟩) (T.length + 1) cp).ownBlock = some k → K.tv.ownBlock = some k ∨ wA.heap.size ≤ k := fun k e => by
        simp only [Value.ownBlock, Option.some.injEq] at e
        subst e
        rcases a1 with e | e
        · exact Or.inl e
        · exact Or.inr (Nat.le_trans bt.size e)
      obtain ⟨s0, u0⟩ := o1.stored (T.length * 5) (.int .i64 t.op)
      obtain ⟨s1, u1⟩ := s0.stored (T.length * 5 + 1) (.int .i64 t.a)
      obtain ⟨s2, u2⟩ := s1.stored (T.length * 5 + 2) (.int .i64 t.b)
      obtain ⟨s3, u3⟩ := s2.stored (T.length * 5 + 3) (.string t.s)
      obtain ⟨s4, u4⟩ := s3.stored (T.length * 5 + 4) (.slice ad t.n cpt)
      have hput := tcells_put T (t, ad, cpt)
      simp only at hput
      rw [hput] at s4
      obtain ⟨w2, hw2⟩ : ∃ x, x = (((((w1.setCell ⟨g, T.length * 5, none⟩ (.int .i64 t.op)).setCell ⟨g, T.length * 5 + 1, none⟩ (.int .i64 t.a)).setCell ⟨g, T.length * 5 + 2, none⟩ (.int .i64 t.b)).setCell ⟨g, T.length * 5 + 3, none⟩ (.string t.s)).setCell ⟨g, T.length * 5 + 4, none⟩ (.slice ad t.n cpt)) := ⟨_, rfl⟩
      rw [← hw2] at s4 u4
      have gg : w1.grownBy w2 (some g) := grown_trans (grown_trans (grown_trans (grown_trans u0 u1) u2) u3) u4
      have hg : wA.grownBy w2 K.tv.ownBlock := ⟨gg.os.trans hg1.os, gg.tape.trans hg1.tape, gg.output.trans hg1.output, Nat.le_trans hg1.size gg.size, fun k hk hne => (gg.block k (Nat.lt_of_lt_of_le hk hg1.size) (fun e => by
        injection e with e
        rcases hN g rfl with e1 | e1
        · exact hne (by rw [e, e1])
        · omega)).trans (hg1.block k hk hne)⟩
      have hlen : (T ++ [(t, ad, cpt)]).length = T.length + 1 := by simp
      obtain ⟨S5, P5⟩ := (unhide HA).put_t (v' := .slice (some ⟨g, 0, none⟩) (T.length + 1) cp) (T' := T ++ [(t, ad, cpt)]) hg (by rw [hlen]; exact s4) hN (Below.refl _ _)
      have hgB : g ≠ K.B := fun e => by
        rcases hN g rfl with e1 | e1
        · exact (unhide HA).nt (by rw [e1, e])
        · omega
      have e1 : w1.cell? ⟨K.B, 1, none⟩ = some (.slice ta T.length tc) := by
        rw [← htv]
        exact (World.cell?_of_block (w := wA) (a := ⟨K.B, 1, none⟩) (hg1.block K.B hltA (fun e => (unhide HA).nt e.symm))).trans (unhide HA).c1
      have f1 : w1.frozen? ⟨K.B, 1, none⟩ = false := (World.frozen?_of_block (w := wA) (a := ⟨K.B, 1, none⟩) (hg1.block K.B hltA (fun e => (unhide HA).nt e.symm))).trans ((unhide HA).fz 1)
      have r0 := o1.cellAt (T.length * 5) (by omega)
      have r1 := o1.cellAt (T.length * 5 + 1) (by omega)
      have r2 := o1.cellAt (T.length * 5 + 2) (by omega)
      have r3 := o1.cellAt (T.length * 5 + 3) (by omega)
      have r4 := o1.cellAt (T.length * 5 + 4) (by omega)
      have rz : tcells (T ++ [zlt]) = tcells T ++ [.int .i64 0, .int .i64 0, .int .i64 0, .string ⟨#[]⟩, .slice none 0 0] := by rw [tcells_app]; rfl
      have hl5 := tcells_size T
      rw [rz] at r0 r1 r2 r3 r4
      rw [List.getElem?_append_right (by omega)] at r0 r1 r2 r3 r4
      simp only [hl5, Nat.sub_self, Nat.add_sub_cancel_left, List.getElem?_cons_zero, List.getElem?_cons_succ] at r0 r1 r2 r3 r4
      have y0 := o1.frozenAt (T.length * 5)
      have y1 := o1.frozenAt (T.length * 5 + 1)
      have y2 := o1.frozenAt (T.length * 5 + 2)
      have y3 := o1.frozenAt (T.length * 5 + 3)
      have y4 := o1.frozenAt (T.length * 5 + 4)
      have hBg : K.B ≠ g := fun e => hgB e.symm
      obtain ⟨w3, hw3⟩ : ∃ x, x = w2.setCell ⟨K.B, 1, none⟩ (.slice (some ⟨g, 0, none⟩) (T.length + 1) cp) := ⟨_, rfl⟩
      have hw3' : w3 = (((((w1.setCell ⟨K.B, 1, none⟩ (.slice (some ⟨g, 0, none⟩) (T.length + 1) cp)).setCell ⟨g, T.length * 5, none⟩ (.int .i64 t.op)).setCell ⟨g, T.length * 5 + 1, none⟩ (.int .i64 t.a)).setCell ⟨g, T.length * 5 + 2, none⟩ (.int .i64 t.b)).setCell ⟨g, T.length * 5 + 3, none⟩ (.string t.s)).setCell ⟨g, T.length * 5 + 4, none⟩ (.slice ad t.n cpt) := by
        have comm : ∀ (W : World) (j : Nat) (u : Value), (W.setCell ⟨g, j, none⟩ u).setCell ⟨K.B, 1, none⟩ (.slice (some ⟨g, 0, none⟩) (T.length + 1) cp) = (W.setCell ⟨K.B, 1, none⟩ (.slice (some ⟨g, 0, none⟩) (T.length + 1) cp)).setCell ⟨g, j, none⟩ u := fun W j u => setCell_comm W hgB _ _
        rw [hw3, hw2]
        simp only [comm]
      rw [hw2] at hw3
      rw [← hw2] at hw3
      have hw3f := hw3
      rw [hw2] at hw3f
      rw [← hw3] at S5 P5
      rw [htv] at run
      have HRun := hide run
      have HWT := hide hwt
      have HS := hide S5
      have HP := hide P5
      have HW3 := hide hw3f
      have HW3' := hide hw3'
      clear hw3f hw3' hw3 hw2 run S5 P5 s0 s1 s2 s3 s4 u0 u1 u2 u3 u4 hput rz hl5 o1 g1 a1 hg1 hN gg hg hlen hAt ZF bt hwt hgB htv
      obtain ⟨x0, x1, x2, x3, x4⟩ := id X
      have kl : (T.length : Int) < (T.length : Int) + 1 := by omega
      go_wp2_with fail
      go_cut [] (fun wx => wx = w3)
      case first =>
        clear HS HP HA PA HSm hf hT hL hhi hhb hbb hbA hb hM hM6 t1 t2 t3 t4 d1 hr HZ hdv
        refine wp_region_any (by kernel_rfl) ?_
        change wpAny _ _ _ _ _ _ _ wA.drew
        refine wpAny_take (i := 0) (v := ?_) rfl (by kernel_rfl) (by kernel_rfl) (by kernel_rfl) (fun _ _ _ h => h) (Or.inl ⟨by rfl, ?_⟩) ?_
        rotate_left
        · (intro w; first | (go_simp; done) | (go_simp; with_reducible rfl))
        try simp only [List.getElem_toArray, List.getElem_cons_succ, List.getElem_cons_zero, Act.put, List.setIfInBounds_toArray, List.set_cons_zero, List.set_cons_succ]
        refine wpAny_take (i := 1) (v := ?_) rfl (by kernel_rfl) (by kernel_rfl) (by kernel_rfl) (fun _ _ _ h => h) (Or.inl ⟨by rfl, ?_⟩) ?_
        rotate_left
        · (intro w; first | (go_simp; done) | (go_simp; with_reducible rfl))
        try simp only [List.getElem_toArray, List.getElem_cons_succ, List.getElem_cons_zero, Act.put, List.setIfInBounds_toArray, List.set_cons_zero, List.set_cons_succ]
        refine wpAny_take (i := 2) (v := ?_) rfl (by kernel_rfl) (by kernel_rfl) (by kernel_rfl) (fun _ _ _ h => h) (Or.inl ⟨by rfl, ?_⟩) ?_
        rotate_left
        · (intro w; first | (go_simp; done) | (go_simp; with_reducible rfl))
        try simp only [List.getElem_toArray, List.getElem_cons_succ, List.getElem_cons_zero, Act.put, List.setIfInBounds_toArray, List.set_cons_zero, List.set_cons_succ]
        refine withGo1 (fun Go a0 hGo ha0 => ?_)
        have N_3_4_6 : Go 6 #[true, true, true, true, true, true, true, false, false, false, false, false, false] ((((a0.put (some 23) (.slice ta T.length tc)).put (some 25) (.int .i64 (T.length : Int))).put (some 24) (.agg #[.int .i64 t.op, .int .i64 t.a, .int .i64 t.b, .string t.s, .slice ad t.n cpt])).put (some 26) (.slice (some ⟨wA.heap.size, 0, none⟩) 1 1)) wt := by
          rw [unhide hGo, unhide ha0]
          try simp only [List.getElem_toArray, List.getElem_cons_succ, List.getElem_cons_zero, Act.put, List.setIfInBounds_toArray, List.set_cons_zero, List.set_cons_succ]
          refine wpAny_ready (rs := [7]) (by kernel_rfl) (by simp) ?_
          refine AllReady.cons rfl (fun K hK => ?_) AllReady.nil
          have HKK := hide hK
          clear hK
          refine step_append_ex rfl _ _ _ rfl _ _ rfl rfl _ _ (unhide HRun) ?_
          refine unhide HKK _ _ ?_
          clear HKK
          try simp only [List.getElem_toArray, List.getElem_cons_succ, List.getElem_cons_zero, Act.put, List.setIfInBounds_toArray, List.set_cons_zero, List.set_cons_succ]
          refine wpAny_take (i := 8) (v := ?_) rfl (by kernel_rfl) (by kernel_rfl) (by kernel_rfl) (fun _ _ _ h => h) (Or.inl ⟨by rfl, ?_⟩) ?_
          rotate_left
          · (intro w; first | (go_simp; done) | (go_simp; with_reducible rfl))
          try simp only [List.getElem_toArray, List.getElem_cons_succ, List.getElem_cons_zero, Act.put, List.setIfInBounds_toArray, List.set_cons_zero, List.set_cons_succ]
          refine wpAny_take (i := 10) (v := ?_) rfl (by kernel_rfl) (by kernel_rfl) (by kernel_rfl) (fun _ _ _ h => h) (Or.inl ⟨by rfl, ?_⟩) ?_
          rotate_left
          · (intro w; first | (go_simp; done) | (go_simp; with_reducible rfl))
          try simp only [List.getElem_toArray, List.getElem_cons_succ, List.getElem_cons_zero, Act.put, List.setIfInBounds_toArray, List.set_cons_zero, List.set_cons_succ]
          refine wpAny_take (i := 11) (v := ?_) rfl (by kernel_rfl) (by kernel_rfl) (by kernel_rfl) (fun _ _ _ h => h) (Or.inl ⟨by rfl, ?_⟩) ?_
          rotate_left
          · (intro w; first | (go_simp; done) | (go_simp; with_reducible rfl))
          try simp only [List.getElem_toArray, List.getElem_cons_succ, List.getElem_cons_zero, Act.put, List.setIfInBounds_toArray, List.set_cons_zero, List.set_cons_succ]
          refine wpAny_ready (rs := [9, 12]) (by kernel_rfl) (by simp) ?_
          refine AllReady.cons rfl (fun K hK => ?_) (AllReady.cons rfl (fun K hK => ?_) AllReady.nil)
          · have HKK := hide hK
            clear hK
            go_simp
            refine unhide HKK _ _ ?_
            clear HKK
            try simp only [List.getElem_toArray, List.getElem_cons_succ, List.getElem_cons_zero, Act.put, List.setIfInBounds_toArray, List.set_cons_zero, List.set_cons_succ]
            refine wpAny_ready (rs := [12]) (by kernel_rfl) (by simp) ?_
            refine AllReady.cons rfl (fun K hK => ?_) AllReady.nil
            have HKK := hide hK
            clear hK
            go_simp
            refine unhide HKK _ _ ?_
            clear HKK
            try simp only [List.getElem_toArray, List.getElem_cons_succ, List.getElem_cons_zero, Act.put, List.setIfInBounds_toArray, List.set_cons_zero, List.set_cons_succ]
            refine wpAny_done (by kernel_rfl) ?_ _
            go_wp2_with fail
            go_meet
            exact (unhide HW3).symm
          · have HKK := hide hK
            clear hK
            go_simp
            refine unhide HKK _ _ ?_
            clear HKK
            try simp only [List.getElem_toArray, List.getElem_cons_succ, List.getElem_cons_zero, Act.put, List.setIfInBounds_toArray, List.set_cons_zero, List.set_cons_succ]
            refine wpAny_ready (rs := [9]) (by kernel_rfl) (by simp) ?_
            refine AllReady.cons rfl (fun K hK => ?_) AllReady.nil
            have HKK := hide hK
            clear hK
            go_simp
            refine unhide HKK _ _ ?_
            clear HKK
            try simp only [List.getElem_toArray, List.getElem_cons_succ, List.getElem_cons_zero, Act.put, List.setIfInBounds_toArray, List.set_cons_zero, List.set_cons_succ]
            refine wpAny_done (by kernel_rfl) ?_ _
            go_wp2_with fail
            go_meet
            exact (unhide HW3').symm
        have N_3_4 : Go 7 #[true, true, true, true, true, true, false, false, false, false, false, false, false] (((a0.put (some 23) (.slice ta T.length tc)).put (some 25) (.int .i64 (T.length : Int))).put (some 24) (.agg #[.int .i64 t.op, .int .i64 t.a, .int .i64 t.b, .string t.s, .slice ad t.n cpt])) wA.drew := by
          rw [unhide hGo, unhide ha0]
          try simp only [List.getElem_toArray, List.getElem_cons_succ, List.getElem_cons_zero, Act.put, List.setIfInBounds_toArray, List.set_cons_zero, List.set_cons_succ]
          refine wpAny_ready (rs := [6]) (by kernel_rfl) (by simp) ?_
          refine AllReady.cons rfl (fun K hK => ?_) AllReady.nil
          have HKK := hide hK
          clear hK
          go_simp
          refine unhide HKK _ _ ?_
          clear HKK
          try simp only [List.getElem_toArray, List.getElem_cons_succ, List.getElem_cons_zero, Act.put, List.setIfInBounds_toArray, List.set_cons_zero, List.set_cons_succ]
          rw [← unhide hGo]
          exact goTo1 N_3_4_6 (by kernel_rfl) (by kernel_rfl) (by rw [unhide ha0]; kernel_rfl) (unhide HWT).symm
        have N_3_6 : Go 7 #[true, true, true, true, false, true, true, false, false, false, false, false, false] (((a0.put (some 23) (.slice ta T.length tc)).put (some 25) (.int .i64 (T.length : Int))).put (some 26) (.slice (some ⟨wA.heap.size, 0, none⟩) 1 1)) wt := by
          rw [unhide hGo, unhide ha0]
          try simp only [List.getElem_toArray, List.getElem_cons_succ, List.getElem_cons_zero, Act.put, List.setIfInBounds_toArray, List.set_cons_zero, List.set_cons_succ]
          refine wpAny_ready (rs := [4]) (by kernel_rfl) (by simp) ?_
          refine AllReady.cons rfl (fun K hK => ?_) AllReady.nil
          have HKK := hide hK
          clear hK
          rw [unhide HWT]
          go_simp
          refine unhide HKK _ _ ?_
          clear HKK
          try simp only [List.getElem_toArray, List.getElem_cons_succ, List.getElem_cons_zero, Act.put, List.setIfInBounds_toArray, List.set_cons_zero, List.set_cons_succ]
          rw [← unhide hGo]
          exact goTo1 N_3_4_6 (by kernel_rfl) (by kernel_rfl) (by rw [unhide ha0]; kernel_rfl) (unhide HWT).symm
        have N_4_6 : Go 8 #[true, true, true, false, true, false, true, false, false, false, false, false, false] ((a0.put (some 24) (.agg #[.int .i64 t.op, .int .i64 t.a, .int .i64 t.b, .string t.s, .slice ad t.n cpt])).put (some 26) (.slice (some ⟨wA.heap.size, 0, none⟩) 1 1)) wt := by
          rw [unhide hGo, unhide ha0]
          try simp only [List.getElem_toArray, List.getElem_cons_succ, List.getElem_cons_zero, Act.put, List.setIfInBounds_toArray, List.set_cons_zero, List.set_cons_succ]
          refine wpAny_ready (rs := [3]) (by kernel_rfl) (by simp) ?_
          refine AllReady.cons rfl (fun K hK => ?_) AllReady.nil
          have HKK := hide hK
          clear hK
          rw [unhide HWT]
          go_simp
          refine unhide HKK _ _ ?_
          clear HKK
          try simp only [List.getElem_toArray, List.getElem_cons_succ, List.getElem_cons_zero, Act.put, List.setIfInBounds_toArray, List.set_cons_zero, List.set_cons_succ]
          refine wpAny_take (i := 5) (v := ?_) rfl (by kernel_rfl) (by kernel_rfl) (by kernel_rfl) (fun _ _ _ h => h) (Or.inl ⟨by rfl, ?_⟩) ?_
          rotate_left
          · (intro w; first | (go_simp; done) | (go_simp; with_reducible rfl))
          try simp only [List.getElem_toArray, List.getElem_cons_succ, List.getElem_cons_zero, Act.put, List.setIfInBounds_toArray, List.set_cons_zero, List.set_cons_succ]
          rw [← unhide hGo]
          exact goTo1 N_3_4_6 (by kernel_rfl) (by kernel_rfl) (by rw [unhide ha0]; kernel_rfl) (unhide HWT).symm
        have N_3 : Go 8 #[true, true, true, true, false, true, false, false, false, false, false, false, false] ((a0.put (some 23) (.slice ta T.length tc)).put (some 25) (.int .i64 (T.length : Int))) wA.drew := by
          rw [unhide hGo, unhide ha0]
          try simp only [List.getElem_toArray, List.getElem_cons_succ, List.getElem_cons_zero, Act.put, List.setIfInBounds_toArray, List.set_cons_zero, List.set_cons_succ]
          refine wpAny_ready (rs := [4, 6]) (by kernel_rfl) (by simp) ?_
          refine AllReady.cons rfl (fun K hK => ?_) (AllReady.cons rfl (fun K hK => ?_) AllReady.nil)
          · have HKK := hide hK
            clear hK
            go_simp
            refine unhide HKK _ _ ?_
            clear HKK
            try simp only [List.getElem_toArray, List.getElem_cons_succ, List.getElem_cons_zero, Act.put, List.setIfInBounds_toArray, List.set_cons_zero, List.set_cons_succ]
            rw [← unhide hGo]
            exact goTo1 N_3_4 (by kernel_rfl) (by kernel_rfl) (by rw [unhide ha0]; kernel_rfl) rfl
          · have HKK := hide hK
            clear hK
            go_simp
            refine unhide HKK _ _ ?_
            clear HKK
            try simp only [List.getElem_toArray, List.getElem_cons_succ, List.getElem_cons_zero, Act.put, List.setIfInBounds_toArray, List.set_cons_zero, List.set_cons_succ]
            rw [← unhide hGo]
            exact goTo1 N_3_6 (by kernel_rfl) (by kernel_rfl) (by rw [unhide ha0]; kernel_rfl) (unhide HWT).symm
        have N_4 : Go 9 #[true, true, true, false, true, false, false, false, false, false, false, false, false] (a0.put (some 24) (.agg #[.int .i64 t.op, .int .i64 t.a, .int .i64 t.b, .string t.s, .slice ad t.n cpt])) wA.drew := by
          rw [unhide hGo, unhide ha0]
          try simp only [List.getElem_toArray, List.getElem_cons_succ, List.getElem_cons_zero, Act.put, List.setIfInBounds_toArray, List.set_cons_zero, List.set_cons_succ]
          refine wpAny_ready (rs := [3, 6]) (by kernel_rfl) (by simp) ?_
          refine AllReady.cons rfl (fun K hK => ?_) (AllReady.cons rfl (fun K hK => ?_) AllReady.nil)
          · have HKK := hide hK
            clear hK
            go_simp
            refine unhide HKK _ _ ?_
            clear HKK
            try simp only [List.getElem_toArray, List.getElem_cons_succ, List.getElem_cons_zero, Act.put, List.setIfInBounds_toArray, List.set_cons_zero, List.set_cons_succ]
            refine wpAny_take (i := 5) (v := ?_) rfl (by kernel_rfl) (by kernel_rfl) (by kernel_rfl) (fun _ _ _ h => h) (Or.inl ⟨by rfl, ?_⟩) ?_
            rotate_left
            · (intro w; first | (go_simp; done) | (go_simp; with_reducible rfl))
            try simp only [List.getElem_toArray, List.getElem_cons_succ, List.getElem_cons_zero, Act.put, List.setIfInBounds_toArray, List.set_cons_zero, List.set_cons_succ]
            rw [← unhide hGo]
            exact goTo1 N_3_4 (by kernel_rfl) (by kernel_rfl) (by rw [unhide ha0]; kernel_rfl) rfl
          · have HKK := hide hK
            clear hK
            go_simp
            refine unhide HKK _ _ ?_
            clear HKK
            try simp only [List.getElem_toArray, List.getElem_cons_succ, List.getElem_cons_zero, Act.put, List.setIfInBounds_toArray, List.set_cons_zero, List.set_cons_succ]
            rw [← unhide hGo]
            exact goTo1 N_4_6 (by kernel_rfl) (by kernel_rfl) (by rw [unhide ha0]; kernel_rfl) (unhide HWT).symm
        have N_6 : Go 9 #[true, true, true, false, false, false, true, false, false, false, false, false, false] (a0.put (some 26) (.slice (some ⟨wA.heap.size, 0, none⟩) 1 1)) wt := by
          rw [unhide hGo, unhide ha0]
          try simp only [List.getElem_toArray, List.getElem_cons_succ, List.getElem_cons_zero, Act.put, List.setIfInBounds_toArray, List.set_cons_zero, List.set_cons_succ]
          refine wpAny_ready (rs := [3, 4]) (by kernel_rfl) (by simp) ?_
          refine AllReady.cons rfl (fun K hK => ?_) (AllReady.cons rfl (fun K hK => ?_) AllReady.nil)
          · have HKK := hide hK
            clear hK
            rw [unhide HWT]
            go_simp
            refine unhide HKK _ _ ?_
            clear HKK
            try simp only [List.getElem_toArray, List.getElem_cons_succ, List.getElem_cons_zero, Act.put, List.setIfInBounds_toArray, List.set_cons_zero, List.set_cons_succ]
            refine wpAny_take (i := 5) (v := ?_) rfl (by kernel_rfl) (by kernel_rfl) (by kernel_rfl) (fun _ _ _ h => h) (Or.inl ⟨by rfl, ?_⟩) ?_
            rotate_left
            · (intro w; first | (go_simp; done) | (go_simp; with_reducible rfl))
            try simp only [List.getElem_toArray, List.getElem_cons_succ, List.getElem_cons_zero, Act.put, List.setIfInBounds_toArray, List.set_cons_zero, List.set_cons_succ]
            rw [← unhide hGo]
            exact goTo1 N_3_6 (by kernel_rfl) (by kernel_rfl) (by rw [unhide ha0]; kernel_rfl) (unhide HWT).symm
          · have HKK := hide hK
            clear hK
            rw [unhide HWT]
            go_simp
            refine unhide HKK _ _ ?_
            clear HKK
            try simp only [List.getElem_toArray, List.getElem_cons_succ, List.getElem_cons_zero, Act.put, List.setIfInBounds_toArray, List.set_cons_zero, List.set_cons_succ]
            rw [← unhide hGo]
            exact goTo1 N_4_6 (by kernel_rfl) (by kernel_rfl) (by rw [unhide ha0]; kernel_rfl) (unhide HWT).symm
        have N_0 : Go 10 #[true, true, true, false, false, false, false, false, false, false, false, false, false] a0 wA.drew := by
          rw [unhide hGo, unhide ha0]
          try simp only [List.getElem_toArray, List.getElem_cons_succ, List.getElem_cons_zero, Act.put, List.setIfInBounds_toArray, List.set_cons_zero, List.set_cons_succ]
          refine wpAny_ready (rs := [3, 4, 6]) (by kernel_rfl) (by simp) ?_
          refine AllReady.cons rfl (fun K hK => ?_) (AllReady.cons rfl (fun K hK => ?_) (AllReady.cons rfl (fun K hK => ?_) AllReady.nil))
          · have HKK := hide hK
            clear hK
            go_simp
            refine unhide HKK _ _ ?_
            clear HKK
            try simp only [List.getElem_toArray, List.getElem_cons_succ, List.getElem_cons_zero, Act.put, List.setIfInBounds_toArray, List.set_cons_zero, List.set_cons_succ]
            refine wpAny_take (i := 5) (v := ?_) rfl (by kernel_rfl) (by kernel_rfl) (by kernel_rfl) (fun _ _ _ h => h) (Or.inl ⟨by rfl, ?_⟩) ?_
            rotate_left
            · (intro w; first | (go_simp; done) | (go_simp; with_reducible rfl))
            try simp only [List.getElem_toArray, List.getElem_cons_succ, List.getElem_cons_zero, Act.put, List.setIfInBounds_toArray, List.set_cons_zero, List.set_cons_succ]
            rw [← unhide hGo]
            exact goTo1 N_3 (by kernel_rfl) (by kernel_rfl) (by rw [unhide ha0]; kernel_rfl) rfl
          · have HKK := hide hK
            clear hK
            go_simp
            refine unhide HKK _ _ ?_
            clear HKK
            try simp only [List.getElem_toArray, List.getElem_cons_succ, List.getElem_cons_zero, Act.put, List.setIfInBounds_toArray, List.set_cons_zero, List.set_cons_succ]
            rw [← unhide hGo]
            exact goTo1 N_4 (by kernel_rfl) (by kernel_rfl) (by rw [unhide ha0]; kernel_rfl) rfl
          · have HKK := hide hK
            clear hK
            go_simp
            refine unhide HKK _ _ ?_
            clear HKK
            try simp only [List.getElem_toArray, List.getElem_cons_succ, List.getElem_cons_zero, Act.put, List.setIfInBounds_toArray, List.set_cons_zero, List.set_cons_succ]
            rw [← unhide hGo]
            exact goTo1 N_6 (by kernel_rfl) (by kernel_rfl) (by rw [unhide ha0]; kernel_rfl) (unhide HWT).symm
        exact goTo1 N_0 (by kernel_rfl) (by kernel_rfl) rfl rfl
      case rest =>
        have e3 := hcut
        obtain ⟨K1, hK1⟩ : ∃ x, x = ({ K with tv := .slice (some ⟨g, 0, none⟩) (T.length + 1) cp } : SK) := ⟨_, rfl⟩
        rw [← e3, ← hK1] at HS HP
        have hB1 : K1.B = K.B := by rw [hK1]
        have HB1 := hide hB1
        obtain ⟨w4, rfl⟩ : ∃ z, z = wc := ⟨_, rfl⟩
        clear e3 hcut hK1 HW3 HW3' HRun x0 x1 x2 x3 x4 X c1 r0 r1 r2 r3 r4 y0 y1 y2 y3 y4 e1 f1
        go_wp2_with fail
        rw [← hB1]
        refine (last_any w4 base K1 L (T ++ [(t, ad, cpt)]) M (unhide HS) hM (by omega)).mono ?_
        rintro e w5 ⟨⟨g2, c2, hmv, rfl⟩, b5⟩
        have HS4 := hide ((unhide HS).later b5)
        have HP4 := hide (((unhide PA).trans (unhide HP)).trans (Stp.of b5))
        obtain ⟨m, hm⟩ : ∃ m, M.length = m + 1 := ⟨M.length - 1, by omega⟩
        have hm4 := mcells_at M m 2 (by omega) (by omega)
        have hm5 := mcells_at M m 3 (by omega) (by omega)
        have om := (unhide HS4).om
        rw [hmv] at om
        have k2 := om.cellAt (m * 4 + 2) (by omega)
        have k3 := om.cellAt (m * 4 + 3) (by omega)
        have y2 := om.frozenAt (m * 4 + 2)
        have y3 := om.frozenAt (m * 4 + 3)
        rw [hm4] at k2
        rw [hm5] at k3
        simp only [mcell, List.getElem?_cons_succ, List.getElem?_cons_zero] at k2 k3 hm4 hm5
        obtain ⟨S5, P5⟩ := (unhide HS4).mset hmv hm4
        obtain ⟨S6, P6⟩ := S5.mset hmv hm5
        have HS6 := hide S6
        have HP6 := hide (((unhide HP4).trans P5).trans P6)
        have e1 : (M.length - 1) * 4 = m * 4 := by omega
        rw [e1]
        clear S5 S6 P5 P6 om hm4 hm5 hmv HS HP HS4 HP4 b5 e1
        go_wp2
        go_ret
        exact ⟨by rw [hr]; rfl, K1, unhide HB1, unhide HP6, fun _ _ => unhide HS6⟩
theorem infoMarkS : (Tryz.prog.info? 101).map (fun i => (i.zero, i.size, i.bytes)) = some (some (.agg #[.int .i64 0, .int .i64 0, .slice none 0 0, .int .i64 0]), 4, 48) := by kernel_rfl
/-- One mark more. -/
theorem mark_one (w : World) (base : Nat) (v : Value) (M : List (Nat × Nat)) (p : Nat × Nat) (Tb : Nat) (hown : w.ownsRow base 101 4 v M.length (mcells M)) (h0 : w.cell? ⟨Tb, 0, none⟩ = some (.int .i64 (p.1 : Int))) (h1 : w.cell? ⟨Tb, 1, none⟩ = some (.int .i64 (p.2 : Int))) (h2 : w.cell? ⟨Tb, 2, none⟩ = some (.slice none 0 0)) (h3 : w.cell? ⟨Tb, 3, none⟩ = some (.int .i64 0)) (hk : M.length ≤ 100) (hbase : base ≤ w.heap.size) :
    ∃ g' cap' w', (Builtin.append_ #[70, 70] 70 #[v, .slice (some ⟨Tb, 0, none⟩) 1 1]).run Tryz.prog w = .ok (.slice (some ⟨g', 0, none⟩) (M.length + 1) cap') w' ∧ w'.ownsRow base 101 4 (.slice (some ⟨g', 0, none⟩) (M.length + 1) cap') (M ++ [p]).length (mcells (M ++ [p])) ∧ w.grownBy w' v.ownBlock ∧ (v.ownBlock = some g' ∨ w.heap.size ≤ g') := by
  obtain ⟨i0, hi0, hzz⟩ := Option.map_eq_some_iff.1 infoMarkS
  simp only [Prod.mk.injEq] at hzz
  obtain ⟨hz0, hz1, hz2⟩ := hzz
  rw [mcells_app, List.length_append, List.length_singleton]
  exact append_any (P := Tryz.prog) w base 70 70 101 i0 _ 4 48 Tryz.underlying70 hi0 hz0 hz1 hz2 rfl (by omega) v M.length (mcells M) hown ⟨Tb, 0, none⟩ 1 1 (mcells [p]) rfl (by
    intro j u hj
    rw [Go.WideShapes.add_plain, Nat.zero_add]
    match j, hj with
    | 0, hj => simp [mcells, mcell] at hj; rw [← hj]; exact h0
    | 1, hj => simp [mcells, mcell] at hj; rw [← hj]; exact h1
    | 2, hj => simp [mcells, mcell] at hj; rw [← hj]; exact h2
    | 3, hj => simp [mcells, mcell] at hj; rw [← hj]; exact h3
    | j + 4, hj => simp [mcells, mcell] at hj) mcells_cell (by omega) (by unfold maxLen; omega) (by omega) hbase
set_option maxRecDepth 100000 in
set_option maxHeartbeats 4000000 in
theorem push_any (w : World) (base : Nat) (K : SK) (L : List (ByteArray × Int)) (T : List Lt) (M : List (Nat × Nat)) (h : Stk w base K L T M) (hM : M.length ≤ 6) (hb : base ≤ w.heap.size) :
    Calls Tryz.prog 50 #[.pointer (some ⟨K.B, 0, none⟩)] w fun e w' => e = .returned (.bool (decide (M.length ≠ 6))) ∧ ∃ K', K'.B = K.B ∧ Stp K w K' w' ∧ (M.length ≠ 6 → Stk w' base K' L T (M ++ [(L.length, T.length)])) := by
  have HK := hide h
  obtain ⟨da, dc, hdv, d1, _⟩ := own_slice h.od
  obtain ⟨ta, tc, htv, t1, _⟩ := own_slice h.ot
  obtain ⟨ma, mc, hmv, m1, _⟩ := own_slice h.om
  have c0 := h.c0
  have c1 := h.c1
  have c2 := h.c2
  rw [hdv] at c0
  rw [htv] at c1
  rw [hmv] at c2
  have hlt := h.lt
  have hfz := h.fz 2
  by_cases h6 : M.length = 6
  · have k6 : ((M.length : Int) == 6) = true := by simp; omega
    have HR : Hid (decide (M.length ≠ 6) = false) := by show _ = _; simp [h6]
    have H6 := hide h6
    clear h h6
    go_enter Tryz.func50, Tryz.ntmps50
    go_wp2
    rw [unhide HR]
    go_ret
    exact ⟨rfl, K, rfl, Stp.refl _ _, fun h => absurd (unhide H6) h⟩
  · have k6 : ((M.length : Int) == 6) = false := by simp; omega
    have HR : Hid (decide (M.length ≠ 6) = true) := by show _ = _; simp [h6]
    -- the literal and the append, ahead of the walk
    obtain ⟨wt, hwt⟩ : ∃ x, x = w.drew.alloc (.cells #[.int .i64 (L.length : Int), .int .i64 (T.length : Int), .slice none 0 0, .int .i64 0] 101) := ⟨_, rfl⟩
    have bt : Below w.heap.size w wt := by rw [hwt]; exact (Below.refl _ _).drew.alloc (Nat.le_refl _) _
    have q0 : wt.cell? ⟨w.heap.size, 0, none⟩ = some (.int .i64 (L.length : Int)) := by rw [hwt]; exact World.cell?_alloc_new w.drew _ _ _
    have q1 : wt.cell? ⟨w.heap.size, 1, none⟩ = some (.int .i64 (T.length : Int)) := by rw [hwt]; exact World.cell?_alloc_new w.drew _ _ _
    have q2 : wt.cell? ⟨w.heap.size, 2, none⟩ = some (.slice none 0 0) := by rw [hwt]; exact World.cell?_alloc_new w.drew _ _ _
    have q3 : wt.cell? ⟨w.heap.size, 3, none⟩ = some (.int .i64 0) := by rw [hwt]; exact World.cell?_alloc_new w.drew _ _ _
    have ht := h.later bt
    obtain ⟨g, cp, w1, run, o1, g1, a1⟩ := mark_one wt base K.mv M (L.length, T.length) w.heap.size ht.om q0 q1 q2 q3 (by omega) (Nat.le_trans hb bt.size)
    have hg : w.grownBy w1 K.mv.ownBlock := grown_trans (⟨bt.os, bt.tape, bt.output, bt.size, fun k hk _ => bt.block k hk⟩ : w.grownBy wt K.mv.ownBlock) g1
    obtain ⟨S1, P1⟩ := h.put_m (v' := .slice (some ⟨g, 0, none⟩) (M.length + 1) cp) (M' := M ++ [(L.length, T.length)]) hg o1 (fun k e => by
      simp only [Value.ownBlock, Option.some.injEq] at e
      subst e
      rcases a1 with e | e
      · exact Or.inl e
      · exact Or.inr (Nat.le_trans bt.size e)) (Below.refl _ _)
    have e2 : w1.cell? ⟨K.B, 2, none⟩ = some (.slice ma M.length mc) := by
      rw [← hmv]
      exact (World.cell?_of_block (w := w) (a := ⟨K.B, 2, none⟩) (hg.block K.B hlt (fun e => h.nm e.symm))).trans h.c2
    have f2 : w1.frozen? ⟨K.B, 2, none⟩ = false := (World.frozen?_of_block (w := w) (a := ⟨K.B, 2, none⟩) (hg.block K.B hlt (fun e => h.nm e.symm))).trans (h.fz 2)
    rw [hmv, hwt] at run
    have HRun := hide run
    have HS := hide S1
    have HP := hide P1
    have H6 := hide h6
    clear h ht run S1 P1 o1 g1 a1 hg q0 q1 q2 q3 bt hwt hfz hdv htv hmv h6
    go_enter Tryz.func50, Tryz.ntmps50
    go_wp2_with fail
    go_region_law (refine step_append_ex rfl _ _ _ rfl _ _ rfl rfl _ _ (unhide HRun) ?_)
    all_goals go_wp2
    all_goals rw [unhide HR]
    all_goals go_ret
    all_goals exact ⟨rfl, { K with mv := .slice (some ⟨g, 0, none⟩) (M.length + 1) cp }, rfl, unhide HP, fun _ => unhide HS⟩
/-- The first names of a layer. -/
def Lyr.nsTo (q : Lyr) (j : Nat) : List (ByteArray × Int) := dprs j q.S q.V
theorem nsTo_succ (q : Lyr) (j : Nat) : q.nsTo (j + 1) = q.nsTo j ++ [(q.S j, q.V j)] := by
  unfold Lyr.nsTo dprs
  rw [List.range_succ, List.map_append]
  rfl
theorem nsTo_len (q : Lyr) (j : Nat) : (q.nsTo j).length = j := dprs_len _ _ _
theorem nsTo_all (q : Lyr) : q.nsTo q.nd = q.ns := rfl
theorem nsTo_front (q : Lyr) {j : Nat} (h : j ≤ q.nd) : ∃ M, q.ns = q.nsTo j ++ M := by
  induction hd : q.nd - j generalizing j with
  | zero => have : j = q.nd := by omega
            subst this; exact ⟨[], by simp [Lyr.nsTo, Lyr.ns]⟩
  | succ n ih =>
    obtain ⟨M, hM⟩ := ih (j := j + 1) (by omega) (by omega)
    exact ⟨(q.S j, q.V j) :: M, by rw [hM, nsTo_succ]; simp⟩
/-- What fill asks of a layer behind names L and so many terms. -/
def FillP (L : List (ByteArray × Int)) (n : Nat) (q : Lyr) : Prop := DeclL (L ++ q.ns) ∧ n + q.nt ≤ 8 ∧ ∀ j, j < q.nt → tsL (L ++ q.ns) (q.kid j) = 0
noncomputable def fillB (L : List (ByteArray × Int)) (n : Nat) (q : Lyr) : Bool := @decide (FillP L n q) (Classical.propDecidable _)
theorem fillB_iff {L : List (ByteArray × Int)} {n : Nat} {q : Lyr} : fillB L n q = true ↔ FillP L n q := by simp [fillB]
theorem fillB_yes {L : List (ByteArray × Int)} {n : Nat} {q : Lyr} (h : FillP L n q) : fillB L n q = true := fillB_iff.2 h
theorem fillB_no {L : List (ByteArray × Int)} {n : Nat} {q : Lyr} (h : ¬ FillP L n q) : fillB L n q = false := by simpa [fillB] using h
theorem tprs_succ (n : Nat) (kid : Nat → TT) (AD : Nat → Option Addr) (CP : Nat → Nat) : tprs (n + 1) kid AD CP = tprs n kid AD CP ++ [(kid n, AD n, CP n)] := by
  unfold tprs
  rw [List.range_succ, List.map_append]
  rfl
set_option maxRecDepth 100000 in
set_option maxHeartbeats 8000000 in
theorem fill_any (hi : Nat) (w : World) (base : Nat) (K : SK) (L : List (ByteArray × Int)) (T : List Lt) (M : List (Nat × Nat)) (q : Lyr) (da ta : Option Addr) (dc tc : Nat) (h : Stk w base K L T M) (hM : 0 < M.length) (hM6 : M.length ≤ 6) (hb : base ≤ w.heap.size) (hL : (L ++ q.ns).length ≤ 1048576) (hs : SmL 1048576 (L ++ q.ns)) (hT : T.length ≤ 8) (hin : q.In w 0 hi da ta) (hf : q.Low) (hhi : hi ≤ base) (hDL : DeclL L) :
    Calls Tryz.prog 67 #[.pointer (some ⟨K.B, 0, none⟩), .agg #[.slice da q.nd dc, .slice ta q.nt tc]] w fun e w' => e = .returned (.bool (fillB L T.length q)) ∧ ∃ K', K'.B = K.B ∧ Stp K w K' w' ∧ (FillP L T.length q → ∃ T', T'.length = T.length + q.nt ∧ Stk w' base K' (L ++ q.ns) T' M) := by
  have hup := h.isUp
  obtain ⟨x, hx⟩ : ∃ x, x = w.heap.size := ⟨_, rfl⟩
  obtain ⟨wb, hwb⟩ : ∃ v, v = w.alloc (.cells #[.slice da q.nd dc, .slice ta q.nt tc] 62) := ⟨_, rfl⟩
  have bb : Below w.heap.size w wb := by rw [hwb]; exact (Below.refl _ _).alloc (Nat.le_refl _) _
  have x0 : wb.cell? ⟨x, 0, none⟩ = some (.slice da q.nd dc) := by rw [hwb, hx]; simp [go_sem]
  have x1 : wb.cell? ⟨x, 1, none⟩ = some (.slice ta q.nt tc) := by rw [hwb, hx]; simp [go_sem]
  have Fx := hide (h.far_new (x := x) (by omega))
  have HKb := hide (h.later bb)
  have PB := hide (Stp.of (K := K) bb)
  have hin' := hide (hin.later (bb.mono (by omega)))
  have hbb := Nat.le_trans hb bb.size
  have HWB := hide hwb
  have HUP := hide hup
  have HS := hide hs
  have hln : (L ++ q.ns).length = L.length + q.nd := by rw [List.length_append, ns_len]
  have HF := hide hf
  have HDL := hide hDL
  clear h hin hs hwb hup hf hDL
  go_enter Tryz.func67, Tryz.ntmps67
  go_wp2_with fail
  rw [← hx, ← unhide HWB]
  clear hx HWB
  go_wp2
  go_loopw [12] (fun i wr => ∃ (k : Nat) (K' : SK), k ≤ q.nd ∧ i = .int .i64 k ∧ K'.B = K.B ∧ Stk wr base K' (L ++ q.nsTo k) T M ∧ DeclL (L ++ q.nsTo k) ∧ Stp K wb K' wr) (fun i _ => q.nd - (intOf i).toNat)
  case atStart => exact ⟨0, K, by omega, rfl, rfl, by simpa [Lyr.nsTo, dprs] using unhide HKb, by simpa [Lyr.nsTo, dprs] using unhide HDL, Stp.refl _ _⟩
  case round =>
    obtain ⟨k, K', hk, rfl, hB, hst, hdl, hP⟩ := hrel
    have HST := hide hst
    have HDk := hide hdl
    have HPk := hide hP
    have bw := hP.below (unhide HUP) hbb
    have hbr : base ≤ wr.heap.size := Nat.le_trans hbb hP.size
    have y0 := hP.cell x0 (unhide Fx)
    have y1 := hP.cell x1 (unhide Fx)
    clear hst hdl hP
    by_cases hlt : k < q.nd
    · rcases (unhide hin').1 with h0 | ⟨bl, off, rfl, _, hbl, hd⟩
      · omega
      obtain ⟨c0, c1⟩ := hd k hlt
      have d0 := (bw.cell (p := ⟨bl, off + k * 2, none⟩) (show bl < base by omega)).trans c0
      have d1 := (bw.cell (p := ⟨bl, off + k * 2 + 1, none⟩) (show bl < base by omega)).trans c1
      clear c0 c1 hd
      obtain ⟨wx, hwx⟩ : ∃ v, v = wr.alloc (.cells #[.string (q.S k), .int .i64 (q.V k)] 40) := ⟨_, rfl⟩
      have bx : Below wr.heap.size wr wx := by rw [hwx]; exact (Below.refl _ _).alloc (Nat.le_refl _) _
      have HWX := hide hwx
      have HSX := hide ((unhide HST).later bx)
      have HPX := hide ((unhide HPk).trans (Stp.of bx))
      have hl1 : (L ++ q.nsTo k).length ≤ 1048575 := by rw [List.length_append, nsTo_len]; omega
      have e1 : (L ++ q.nsTo k) ++ [(q.S k, q.V k)] = L ++ q.nsTo (k + 1) := by rw [nsTo_succ, List.append_assoc]
      have hs1 : Hid (SmL 1048576 ((L ++ q.nsTo k) ++ [(q.S k, q.V k)])) := by
        show SmL _ _
        rw [e1]
        obtain ⟨N, hN⟩ := nsTo_front q (show k + 1 ≤ q.nd by omega)
        intro i hi
        have := unhide HS i (by rw [hN, ← List.append_assoc, List.length_append]; omega)
        rw [hN, ← List.append_assoc, (sL_front hi).1] at this
        exact this
      have HE1 := hide e1
      have hbx := Nat.le_trans hbr bx.size
      clear hwx e1 bx
      go_wp2_with fail
      rw [← unhide HWX, ← hB]
      refine (name_any wx base K' (L ++ q.nsTo k) T M (q.S k) (q.V k) (unhide HSX) hM hM6 hbx hl1 (unhide hs1)).mono ?_
      rintro e w2 ⟨rfl, K2, hB2, hP2, hS2⟩
      have HP2 := hide ((unhide HPX).trans hP2)
      rw [unhide HE1] at hS2 ⊢
      have HS2 := hide hS2
      have hB2' : K2.B = K.B := hB2.trans hB
      have HB2 := hide hB2'
      clear hS2 hP2 d0 d1 y0 y1 HWX hB2 hB2'
      cases hv : declB (L ++ q.nsTo (k + 1)).length (sL (L ++ q.nsTo (k + 1))) (vL (L ++ q.nsTo (k + 1)))
      · have HNo : Hid (¬ FillP L T.length q) := fun hp => by
          obtain ⟨N, hN⟩ := nsTo_front q (show k + 1 ≤ q.nd by omega)
          have h1 := hp.1
          rw [hN, ← List.append_assoc] at h1
          have := declB_yes h1.front
          rw [hv] at this; cases this
        have HN2 := hide (fillB_no (unhide HNo))
        have HPf := hide ((unhide PB).trans (unhide HP2))
        go_wp2
        rw [unhide HN2]
        go_ret
        exact ⟨rfl, K2, unhide HB2, unhide HPf, fun hp => absurd hp (unhide HNo)⟩
      · have hD : DeclL (L ++ q.nsTo (k + 1)) := (declB_iff _ _ _).1 hv
        have HD := hide hD
        clear hD
        go_wp2
        go_roundw
        case rel => exact ⟨k + 1, K2, by omega, by go_num, unhide HB2, unhide HS2 (unhide HD), unhide HD, unhide HP2⟩
        case measure => simp [intOf]; omega
    · have ek : k = q.nd := by omega
      subst ek
      have HST' : Hid (Stk wr base K' (L ++ q.ns) T M) := unhide HST
      have HDk' : Hid (DeclL (L ++ q.ns)) := unhide HDk
      have hts : ∀ j, j < q.nt → (q.kid j).Fit 1048576 := (unhide HF).1.2.2.2
      have HTS := hide hts
      have hnt := (unhide HF).1.2.2.1
      clear HST HDk hts hlt hk
      go_wp2
      go_loopw [24] (fun i ws => ∃ (j : Nat) (K2 : SK) (T' : List Lt), j ≤ q.nt ∧ i = .int .i64 j ∧ K2.B = K.B ∧ T'.length = T.length + j ∧ T.length + j ≤ 8 ∧ (∀ i, i < j → tsL (L ++ q.ns) (q.kid i) = 0) ∧ Stk ws base K2 (L ++ q.ns) T' M ∧ Stp K wb K2 ws) (fun i _ => q.nt - (intOf i).toNat)
      case atStart => exact ⟨0, K', T, by omega, rfl, hB, by omega, by omega, fun i hi => by omega, unhide HST', unhide HPk⟩
      case round =>
        clear HST' HPk y0 y1 bw hbr hB
        obtain ⟨j, K2, T', hj, rfl, hB, hTl, hT8, hok, hst, hP⟩ := hrel
        have HST := hide hst
        have HPk := hide hP
        have HOK := hide hok
        have bw := hP.below (unhide HUP) hbb
        have hbr : base ≤ wr.heap.size := Nat.le_trans hbb hP.size
        have y0 := hP.cell x0 (unhide Fx)
        have y1 := hP.cell x1 (unhide Fx)
        clear hst hP hok
        by_cases hjt : j < q.nt
        · rcases (unhide hin').2 with h0 | ⟨bt, ot, rfl, _, hbt, AD, CP, hd⟩
          · exact absurd (show q.nt = 0 from h0) (by omega)
          obtain ⟨h5, hcp, hi1⟩ := hd j hjt
          obtain ⟨f0, f1, f2, f3, f4⟩ := h5.keep (w' := wr) (fun o => bw.cell (p := ⟨bt, o, none⟩) (show bt < base by omega))
          have HI1 := hide (hi1.later (bw.mono (by omega)))
          have HFk := hide (unhide HTS j hjt)
          have HNo : Hid (¬ (T'.length ≠ 8 ∧ tsL (L ++ q.ns) (q.kid j) = 0) → ¬ FillP L T.length q) := fun hh hp => hh ⟨by have := hp.2.1; omega, hp.2.2 j hjt⟩
          have HYes : Hid (tsL (L ++ q.ns) (q.kid j) = 0 → ∀ i, i < j + 1 → tsL (L ++ q.ns) (q.kid i) = 0) := fun hh i hi => by
            by_cases e : i = j
            · subst e; exact hh
            · exact unhide HOK i (by omega)
          clear h5 hd hi1
          generalize q.kid j = t at *
          generalize AD j = ad at *
          generalize CP j = cpt at *
          obtain ⟨wx, hwx⟩ : ∃ v, v = wr.alloc (.cells #[.int .i64 t.op, .int .i64 t.a, .int .i64 t.b, .string t.s, .slice ad t.n cpt] 50) := ⟨_, rfl⟩
          have bx : Below wr.heap.size wr wx := by rw [hwx]; exact (Below.refl _ _).alloc (Nat.le_refl _) _
          have HWX := hide hwx
          have HSX := hide ((unhide HST).later bx)
          have HPX := hide ((unhide HPk).trans (Stp.of bx))
          have HIX := hide ((unhide HI1).later (bx.mono (by omega)))
          have hbx := Nat.le_trans hbr bx.size
          clear hwx bx
          go_wp2_with fail
          rw [← unhide HWX, ← hB]
          refine (assert_any hi wx base K2 (L ++ q.ns) T' M t ad cpt (unhide HSX) hM hM6 hbx hL (unhide HS) (by omega) (unhide HIX) (unhide HFk) (by omega)).mono ?_
          rintro e w2 ⟨rfl, K3, hB3, hP3, hS3⟩
          have HP3 := hide ((unhide HPX).trans hP3)
          have HS3 := hide hS3
          have HB3 : Hid (K3.B = K.B) := hB3.trans hB
          clear hS3 hP3 hB3 f0 f1 f2 f3 f4 y0 y1 HWX
          cases hv : (decide (T'.length ≠ 8) && (tsL (L ++ q.ns) t == 0))
          · have HN1 : Hid (¬ FillP L T.length q) := unhide HNo (fun hh => by simp [hh.1, hh.2] at hv)
            have HN2 := hide (fillB_no (unhide HN1))
            have HPf := hide ((unhide PB).trans (unhide HP3))
            go_wp2
            rw [unhide HN2]
            go_ret
            exact ⟨rfl, K3, unhide HB3, unhide HPf, fun hp => absurd hp (unhide HN1)⟩
          · simp only [Bool.and_eq_true, decide_eq_true_eq, beq_iff_eq] at hv
            have HY := hide (unhide HYes hv.2)
            have HSt := hide (unhide HS3 hv.1 hv.2)
            have h8 : T.length + (j + 1) ≤ 8 := by have := hv.1; omega
            have hv' : (decide (T'.length ≠ 8) && (tsL (L ++ q.ns) t == 0)) = true := by simp [hv.1, hv.2]
            clear hv
            go_wp2
            go_roundw
            case rel => exact ⟨j + 1, K3, _, by omega, by go_num, unhide HB3, by simp; omega, h8, unhide HY, unhide HSt, unhide HP3⟩
            case measure => simp [intOf]; omega
        · have ej : j = q.nt := by omega
          have HPf := hide ((unhide PB).trans (unhide HPk))
          have HFi : Hid (FillP L T.length q) := ⟨unhide HDk', by omega, by rw [← ej]; exact unhide HOK⟩
          have HN2 := hide (fillB_yes (unhide HFi))
          have HB3 := hide hB
          have HTl : Hid (T'.length = T.length + q.nt) := by show _ = _; omega
          go_wp2
          rw [unhide HN2]
          go_ret
          exact ⟨rfl, K2, unhide HB3, unhide HPf, fun _ => ⟨T', unhide HTl, unhide HST⟩⟩
theorem CtxP.fill {n k : Nat} {Q : Nat → Lyr} (h : CtxP n Q) (hk : k < n) : FillP (alN Q k) (alT Q k) (Q k) := by
  obtain ⟨h1, h2, h3, h4, h5⟩ := h
  refine ⟨?_, ?_, h5 k hk⟩
  · obtain ⟨M, hM⟩ := alN_front Q (k + 1) n (by omega)
    rw [hM] at h3
    exact h3.front
  · have := alT_mono Q (k + 1) n (by omega)
    simp only [alT] at this
    omega
set_option maxRecDepth 100000 in
set_option maxHeartbeats 8000000 in
theorem stackOf_any (hi : Nat) (a : Option Addr) (n cap : Nat) (Q : Nat → Lyr) (w : World) (hd : LaysIn w 0 hi a n Q) (hf : ∀ i, i < n → (Q i).Low) (hs : sumN (fun i => (Q i).c) n ≤ 1048576) (hn : n ≤ 1048576) (hhi : hi ≤ w.heap.size) :
    Calls Tryz.prog 41 #[.slice a n cap] w fun e w' => (∃ v, e = .returned (.tuple #[v, .bool (ctxB n Q)]) ∧ (CtxP n Q → ∃ K T M, v = .pointer (some ⟨K.B, 0, none⟩) ∧ Stk w' w.heap.size K (alN Q n) T M ∧ T.length = alT Q n ∧ M.length = n)) ∧ Below w.heap.size w w' := by
  have hbd := alN_bd Q n
  have HD := hide hd
  have HF := hide hf
  have HSm : Hid (∀ m, m ≤ n → SmL 1048576 (alN Q m)) := fun m hm => SmL.alN m (fun k hk i hi => (hf k (by omega)).1.2.1 i hi)
  clear hd hf
  obtain ⟨b0, hb0⟩ : ∃ x, x = w.heap.size := ⟨_, rfl⟩
  obtain ⟨ws, hws⟩ : ∃ x, x = w.alloc (.cells #[.slice none 0 0, .slice none 0 0, .slice none 0 0] 72) := ⟨_, rfl⟩
  have bs : Below w.heap.size w ws := by rw [hws]; exact (Below.refl _ _).alloc (Nat.le_refl _) _
  have st0 : Stk ws b0 ⟨b0, .slice none 0 0, .slice none 0 0, .slice none 0 0⟩ [] [] [] := by
    refine ⟨Nat.le_refl _, by rw [hws, hb0]; simp [go_sem], by rw [hws, hb0]; simp [go_sem], by rw [hws, hb0]; simp [go_sem], fun o => by rw [hws, hb0]; simp [go_sem], ⟨rfl, .inl ⟨rfl, rfl⟩⟩, ⟨rfl, .inl ⟨rfl, rfl⟩⟩, ⟨rfl, .inl ⟨rfl, rfl⟩⟩, by simp [Value.ownBlock], by simp [Value.ownBlock], by simp [Value.ownBlock], Or.inl rfl, Or.inl rfl, Or.inl rfl⟩
  have HS0 := hide st0
  have HWS := hide hws
  have HB0 := hide hb0
  have tB : ∀ {w' : World}, Below b0 w w' → Below w.heap.size w w' := fun h => by rw [← hb0]; exact h
  rw [← hb0] at bs
  have hb1 : b0 ≤ ws.heap.size := by have := bs.size; omega
  clear st0 hws
  go_enter Tryz.func41, Tryz.ntmps41
  go_wp2
  rw [← unhide HWS, ← hb0]
  rw [← hb0] at hhi
  clear hb0 HWS
  go_loopw [11] (fun i wr => ∃ (k : Nat) (K : SK) (T : List Lt) (M : List (Nat × Nat)), k ≤ n ∧ i = .int .i64 k ∧ K.B = b0 ∧ Stk wr b0 K (alN Q k) T M ∧ M.length = k ∧ T.length = alT Q k ∧ k ≤ 6 ∧ DeclL (alN Q k) ∧ alT Q k ≤ 8 ∧ (∀ i, i < k → ∀ j, j < (Q i).nt → tsL (alN Q (i + 1)) ((Q i).kid j) = 0) ∧ Below b0 w wr) (fun i _ => n - (intOf i).toNat)
  case atStart => exact ⟨0, _, [], [], by omega, rfl, rfl, unhide HS0, rfl, rfl, by omega, DeclL.nil, by simp [alT], fun i hi => by omega, bs⟩
  case round =>
    clear HS0 bs
    obtain ⟨k, K, T, M, hk, rfl, hB, hst, hM, hT, hk6, hdl, hT8, hok, hbel⟩ := hrel
    have HST := hide hst
    have HDL := hide hdl
    have HOK := hide hok
    have HM := hide hM
    have HT := hide hT
    have hM6 : M.length ≤ 6 := by omega
    have hbr : b0 ≤ wr.heap.size := by have := hbel.size; have := unhide HB0; omega
    clear hst hdl hok hM hT
    by_cases hlt : k < n
    · rcases unhide HD with h0 | ⟨bl, off, rfl, _, hbl, DA, TA, DC, TC, hd⟩
      · omega
      obtain ⟨h2, _, hin⟩ := hd k hlt
      obtain ⟨c0, c1⟩ := h2.keep (w' := wr) (fun o => hbel.cell (p := ⟨bl, o, none⟩) (show bl < b0 by omega))
      have HIN := hide (hin.later (hbel.mono hhi))
      have HFk := hide (unhide HF k hlt)
      have hmono : (alN Q (k + 1)).length ≤ (alN Q n).length := by
        obtain ⟨N, hN⟩ := alN_front Q (k + 1) n (by omega)
        rw [hN, List.length_append]; omega
      have hLk : (alN Q k ++ (Q k).ns).length ≤ 1048576 := by have : alN Q (k + 1) = alN Q k ++ (Q k).ns := rfl; rw [← this]; omega
      have hSk : Hid (SmL 1048576 (alN Q k ++ (Q k).ns)) := unhide HSm (k + 1) (by omega)
      have HNo : Hid (¬ FillP (alN Q k) (alT Q k) (Q k) → ctxB n Q = false) := fun hh => ctxB_no (fun hc => hh (hc.fill hlt))
      clear h2 hd hin hmono
      generalize DA k = da at *
      generalize TA k = ta at *
      generalize DC k = dc at *
      generalize TC k = tc at *
      obtain ⟨wx, hwx⟩ : ∃ v, v = wr.alloc (.cells #[.slice da (Q k).nd dc, .slice ta (Q k).nt tc] 62) := ⟨_, rfl⟩
      have bx : Below wr.heap.size wr wx := by rw [hwx]; exact (Below.refl _ _).alloc (Nat.le_refl _) _
      have z0 : wx.cell? ⟨wr.heap.size, 0, none⟩ = some (.slice da (Q k).nd dc) := by rw [hwx]; simp [go_sem]
      have z1 : wx.cell? ⟨wr.heap.size, 1, none⟩ = some (.slice ta (Q k).nt tc) := by rw [hwx]; simp [go_sem]
      have Fx := hide ((unhide HST).far_new (x := wr.heap.size) (Nat.le_refl _))
      have HSX := hide ((unhide HST).later bx)
      have HIX := hide ((unhide HIN).later (bx.mono (by omega)))
      have hbx := Nat.le_trans hbr bx.size
      have BLx := hbel.trans (bx.mono hbr)
      have HWX := hide hwx
      clear hwx bx HST HIN
      go_wp2_with fail
      rw [← unhide HWX, ← hB]
      refine (push_any wx b0 K (alN Q k) T M (unhide HSX) hM6 hbx).mono ?_
      rintro e w2 ⟨rfl, K2, hB2, hP2, hS2⟩
      have bX2 := hP2.below (unhide HSX).isUp hbx
      have BL2 := BLx.trans bX2
      have q0 := hP2.cell z0 (unhide Fx)
      have q1 := hP2.cell z1 (unhide Fx)
      have hb2 := Nat.le_trans hbx hP2.size
      have HS2 := hide hS2
      have hB2' : K2.B = b0 := hB2.trans hB
      clear hP2 hS2 hB2 c0 c1 z0 z1 HWX
      by_cases h6 : M.length = 6
      · have kd : decide (M.length ≠ 6) = false := by simp [h6]
        have HNn := hide (ctxB_no (n := n) (Q := Q) (fun hc => by have := hc.2.1; have := unhide HM; omega))
        have HNp : Hid (¬ CtxP n Q) := fun hc => by have := hc.2.1; have := unhide HM; omega
        clear h6
        rw [kd]
        go_wp2
        rw [unhide HNn]
        exact bodyPost_ret (v := .tuple #[.pointer none, .bool false]) (by simp [results, Tryz.results41, go_sem]) rfl ⟨⟨_, rfl, fun hc => absurd hc (unhide HNp)⟩, tB BL2⟩
      · have kd : decide (M.length ≠ 6) = true := by simp [h6]
        have HS3 := hide (unhide HS2 h6)
        have hM1 : 0 < (M ++ [((alN Q k).length, T.length)]).length := by simp
        have hM7 : (M ++ [((alN Q k).length, T.length)]).length ≤ 6 := by simp; omega
        have hk5 : k < 6 := by have := unhide HM; omega
        clear h6 HS2
        rw [kd]
        go_wp2_with fail
        rw [← hB, ← hB2'.trans hB.symm]
        refine (fill_any hi w2 b0 K2 (alN Q k) T _ (Q k) da ta dc tc (unhide HS3) hM1 hM7 hb2 hLk (unhide hSk) (by have := unhide HT; omega) ((unhide HIX).later (bX2.mono hhi)) (unhide HFk) hhi (unhide HDL)).mono ?_
        rintro e w3 ⟨rfl, K3, hB3, hP3, hS4⟩
        have BL3 := BL2.trans (hP3.below (unhide HS3).isUp hb2)
        have HB3 : Hid (K3.B = b0) := hB3.trans hB2'
        have HS4 := hide hS4
        clear hP3 hS4 hB3 q0 q1 bX2
        rw [unhide HT]
        cases hv : fillB (alN Q k) (alT Q k) (Q k)
        · have hnp : ¬ FillP (alN Q k) (alT Q k) (Q k) := fun h => by rw [fillB_yes h] at hv; cases hv
          have HNn := hide (unhide HNo hnp)
          have HNp : Hid (¬ CtxP n Q) := fun hc => hnp (hc.fill hlt)
          clear hnp hv
          go_wp2
          rw [unhide HNn]
          exact bodyPost_ret (v := .tuple #[.pointer none, .bool false]) (by simp [results, Tryz.results41, go_sem]) rfl ⟨⟨_, rfl, fun hc => absurd hc (unhide HNp)⟩, tB BL3⟩
        · have hfp := fillB_iff.1 hv
          rw [unhide HT] at HS4
          obtain ⟨T4, hT4, S4⟩ := unhide HS4 hfp
          have HS5 : Hid (Stk w3 b0 K3 (alN Q (k + 1)) T4 (M ++ [((alN Q k).length, alT Q k)])) := S4
          have HT5 : Hid (T4.length = alT Q (k + 1)) := hT4
          have HM5 : Hid ((M ++ [((alN Q k).length, alT Q k)]).length = k + 1) := by show _ = _; rw [List.length_append, unhide HM]; rfl
          have HD5 : Hid (DeclL (alN Q (k + 1))) := hfp.1
          have HT8 : Hid (alT Q (k + 1) ≤ 8) := hfp.2.1
          have HO5 : Hid (∀ i, i < k + 1 → ∀ j, j < (Q i).nt → tsL (alN Q (i + 1)) ((Q i).kid j) = 0) := fun i hi => by
            by_cases e : i = k
            · subst e; exact hfp.2.2
            · exact unhide HOK i (by omega)
          clear hfp S4 hT4 HS4
          go_wp2
          go_roundw
          case rel => exact ⟨k + 1, K3, T4, _, by omega, by go_num, unhide HB3, unhide HS5, unhide HM5, unhide HT5, by omega, unhide HD5, unhide HT8, unhide HO5, BL3⟩
          case measure => simp [intOf]; omega
    · have ek : k = n := by omega
      have HBB := hide hB
      clear hB
      by_cases h0 : n = 0
      · have HNn := hide (ctxB_no (n := n) (Q := Q) (fun hc => by have := hc.1; omega))
        have HNp : Hid (¬ CtxP n Q) := fun hc => by have := hc.1; omega
        have kd : decide (0 < (n : Int)) = false := by simp; omega
        have H0 := hide h0
        clear h0 ek
        go_wp2
        rw [unhide HNn]
        exact bodyPost_ret (v := .tuple #[.pointer (some ⟨b0, 0, none⟩), .bool false]) (by simp [results, Tryz.results41, go_sem]; exact unhide H0) rfl ⟨⟨_, rfl, fun hc => absurd hc (unhide HNp)⟩, tB hbel⟩
      · subst ek
        have hc : CtxP k Q := ⟨by omega, hk6, unhide HDL, hT8, unhide HOK⟩
        have HC := hide hc
        have HNy := hide (ctxB_yes hc)
        have kd : decide (0 < (k : Int)) = true := by simp; omega
        have H0 := hide h0
        clear hc h0
        go_wp2
        rw [unhide HNy]
        exact bodyPost_ret (v := .tuple #[.pointer (some ⟨b0, 0, none⟩), .bool true]) (by simp [results, Tryz.results41, go_sem]; have := unhide H0; omega) rfl ⟨⟨_, rfl, fun _ => ⟨K, T, M, by rw [unhide HBB], by rw [← unhide HB0]; exact unhide HST, unhide HT, unhide HM⟩⟩, tB hbel⟩
set_option maxRecDepth 100000 in
set_option maxHeartbeats 400000 in
theorem iCtxOk_any (hi : Nat) (a : Option Addr) (n cap : Nat) (Q : Nat → Lyr) (w : World) (hd : LaysIn w 0 hi a n Q) (hf : ∀ i, i < n → (Q i).Low) (hs : sumN (fun i => (Q i).c) n ≤ 1048576) (hn : n ≤ 1048576) (hhi : hi ≤ w.heap.size) :
    Calls Tryz.prog 12 #[.slice a n cap] w fun e w' => e = .returned (.bool (ctxB n Q)) ∧ Below w.heap.size w w' := by
  have HC := hide (stackOf_any hi a n cap Q w hd hf hs hn hhi)
  clear hd hf hs
  go_enter Tryz.func12, Tryz.ntmps12
  go_wp2_with fail
  refine (unhide HC).mono ?_
  rintro e w1 ⟨⟨v, rfl, _⟩, b1⟩
  go_wp2
  go_ret
  exact ⟨rfl, b1⟩
end Go.Proofs.YtfopmobopmdahaaGreat
