/- What the model's bending of clauses returns: clauses, perhaps with one more, or another number of marks; the reader moves on, nothing else that was there turns. -/
import Derived.Test.YtbepnfcghjfngaaCldA
namespace Go.Proofs.Ytbepnfcghjfngaa
open Go.ChangeShapes Go.WideShapes Go.ChangeAt Go.RowKit Go.Joins
set_option linter.unusedVariables false

theorem w64_wrap (x : Int) : W64 (wrap64 x) := by unfold W64 wrap64; omega
theorem made_two {w : World} {m : Int} {a : Option Addr} {n cap : Nat} {t : TypeId} : Made (w.alloc (.cells #[.int .i64 m, .slice a n cap] t)) w.heap.size 2 := by
  refine ⟨by simp, fun j hj => ⟨?_, by simp [go_sem]⟩⟩
  match j, hj with
  | 0, _ => exact ⟨_, by simp [go_sem]; rfl⟩
  | 1, _ => exact ⟨_, by simp [go_sem]; rfl⟩
theorem ClzAt.set {w : World} {R b o : Nat} {v x : Value} {Ls : List Clz} (h : ClzAt w R v Ls) (hb : ∀ q, q ∈ Ls → q.g ≠ b) (hv : v.ownBlock ≠ some b) : ClzAt (w.setCell ⟨b, o, none⟩ x) R v Ls := by
  refine ⟨fun q hq => (h.1 q hq).grown (grown_mov (Mov.set (R := b) w o x)) (by intro e; injection e with e; exact hb q hq e.symm), ?_⟩
  rcases h.2 with h' | ⟨c, cap, rfl, h0, h2, h3, h4⟩
  · exact Or.inl h'
  · refine Or.inr ⟨c, cap, rfl, h0, h2, by simpa using h3, fun i hi => ?_⟩
    rw [World.cell?_setCell_other _ _ _ _ (by intro e; injection e with e1 e2; exact hv (by simp [Value.ownBlock, e1]))]
    exact h4 i hi
/-- A new clause. -/
theorem clz_lit (w : World) (R : Nat) (cs : Array Value) (L : List Int) (h : cs.toList = icells L) (hR : R < w.heap.size) (hn : L.length ≤ 100) (hL : ∀ x, x ∈ L → W64 x) : (Clz.mk w.heap.size L.length L).Ok (w.alloc (.cells cs 3)) R := by
  have hs : cs.size = L.length * 1 := by
    have := congrArg List.length h
    simpa [icells] using this
  have ow := World.ownsRow_lit (e := 3) (size := 1) (base := w.heap.size) w cs L.length (Nat.le_refl _) (by unfold maxLen; omega) hs
  rw [h] at ow
  exact clz_of_own ow hR hn hL
set_option maxHeartbeats 4000000 in
theorem l4Bent_any (R N K : Nat) (m : Int) (v : Value) (Ls : List Clz) (w : World) (hR : Rd w R N) (hN : N ≤ 800000) (hm : W64 m) (hc : ClzAt w R v Ls) (hK : Ls.length ≤ K) (hK9 : K ≤ 1000) :
    Calls Try.prog 11 #[.pointer (some ⟨R, 0, none⟩), .agg #[.int .i64 m, v]] w fun e w' => DrewC w' R (K + 1) e ∧ Rd w' R (N + 10) ∧ Mov R w w' := by
  have hlt := hR.lt
  obtain ⟨a, cp, rfl, _⟩ := hc.slice
  have HC0 := hide hc
  have hbl : ∀ q, q ∈ Ls → q.g < w.heap.size := fun q hq => (hc.1 q hq).2.1
  have HBL := hide hbl
  have hov : Hid (∀ k, (Value.slice a Ls.length cp).ownBlock = some k → k < w.heap.size) := by
    intro k hk
    rcases hc.2 with ⟨e, _⟩ | ⟨b, cap, e, _, _, h3, _⟩
    · rw [e] at hk; simp [Value.ownBlock] at hk
    · rw [e] at hk; simp [Value.ownBlock] at hk; omega
  clear hc hbl
  obtain ⟨w1, hw1⟩ : ∃ x, x = w.alloc (.cells #[.int .i64 m, .slice a Ls.length cp] 25) := ⟨_, rfl⟩
  have b1 : Below w.heap.size w w1 := by rw [hw1]; exact (Below.refl _ _).alloc (Nat.le_refl _) _
  have p1 : Box w1 w.heap.size m a Ls.length cp := by rw [hw1]; exact Box.new _ _ _ _ _ _
  have pm1 : Made w1 w.heap.size 2 := by rw [hw1]; exact made_two
  have s1 : w1.heap.size = w.heap.size + 1 := by rw [hw1]; simp
  obtain ⟨w2, hw2⟩ : ∃ x, x = w1.alloc (.cells #[.int .i64 0, .slice none 0 0] 25) := ⟨_, rfl⟩
  have b2 : Below w1.heap.size w1 w2 := by rw [hw2]; exact (Below.refl _ _).alloc (Nat.le_refl _) _
  have rm2 : Made w2 w1.heap.size 2 := by rw [hw2]; exact made_two
  have s2 : w2.heap.size = w1.heap.size + 1 := by rw [hw2]; simp
  have p2 := p1.later b2
  have pm2 := pm1.later b2
  have bb : Below w.heap.size w w2 := b1.trans (b2.mono b1.size)
  obtain ⟨g3, c3, w3, hrun3, ow3, b3⟩ := clz_copy w2 R _ Ls ((unhide HC0).later bb) (by omega)
  have p3 := p2.later b3
  have pm3 := pm2.later b3
  have rm3 := rm2.later b3
  have R3 := (hR.below bb).below b3
  have MV3 : Mov R w w3 := Mov.of (bb.trans (b3.mono bb.size))
  have s3 := b3.size
  have g3b := own_base ow3
  have g3l := (own_cap ow3).2
  have OK3 : Hid (∀ q, q ∈ Ls → q.Ok w3 R) := fun q hq => (((unhide HC0).1 q hq).later bb).later b3
  have OW3 := hide ow3
  have HC3 := hide (((unhide HC0).later bb).later b3)
  rw [hw2, hw1] at hrun3
  simp only [World.size_alloc] at hrun3
  have HR3 := hide hrun3
  rw [s1] at rm3
  clear hrun3 ow3 hw1 hw2 b1 b2 b3 bb p1 p2 pm1 pm2 rm2 hR HC0
  obtain ⟨Bc, hBc⟩ : ∃ x, x = w.heap.size := ⟨_, rfl⟩
  have pl3 := World.block_lt_of_cell? _ _ p3.1
  simp only at pl3
  go_enter Try.func11, Try.ntmps11
  go_wp2_with (first | (at_builtin; refine wpList_append_run _ rfl (.tmp 6) (.tmp 8) 23 rfl _ _ _ _ rfl rfl (unhide HR3) ?_) | fail)
  clear HR3
  refine (pick_any R _ _ _ R3 (by omega) (by omega) (by omega)).mono ?_
  rintro e w4 ⟨x, rfl, x0, x1, R4, m4⟩
  have MV4 := MV3.trans m4
  have s4 := m4.size
  have p4 : Box w4 w.heap.size m a Ls.length cp := ⟨m4.cell p3.1 (by simp only; omega), m4.cell p3.2 (by simp only; omega)⟩
  have pm4 := pm3.mov m4 (by omega)
  have rm4 := rm3.mov m4 (by omega)
  have OK4 : Hid (∀ q, q ∈ Ls → q.Ok w4 R) := fun q hq => (unhide OK3 q hq).mov m4
  have OW4 := hide ((unhide OW3).kept (grown_mov m4) (Or.inr (by simp [Value.ownBlock]; omega)))
  have HC4 := hide ((unhide HC3).mov m4)
  have PM4 := hide pm4
  have RM4 := hide rm4
  clear p3 pm3 rm3 R3 MV3 OK3 OW3 HC3 m4 pm4 rm4
  obtain ⟨p40, p41⟩ := id p4
  have pl4 := World.block_lt_of_cell? _ _ p40
  simp only at pl4
  by_cases h0 : x = 0
  · subst h0
    obtain ⟨w5, hw5⟩ : ∃ x, x = w4.alloc (.cells #[.int .i64 (wrap64 (m + 1))] 3) := ⟨_, rfl⟩
    have b5 : Below w4.heap.size w4 w5 := by rw [hw5]; exact (Below.refl _ _).alloc (Nat.le_refl _) _
    have s5 : w5.heap.size = w4.heap.size + 1 := by rw [hw5]; simp
    have q5 : (Clz.mk w4.heap.size 1 [wrap64 (m + 1)]).Ok w5 R := by rw [hw5]; exact clz_lit w4 R #[.int .i64 (wrap64 (m + 1))] [wrap64 (m + 1)] rfl (by omega) (by simp) (by intro x hx; simp at hx; subst hx; exact w64_wrap _)
    have OW5 := hide ((unhide OW4).kept (grown_below b5) (Or.inr (by simp [Value.ownBlock])))
    obtain ⟨g6, c6, w6, hrun6, ow6, gr6, hg6⟩ := clz_one w5 w2.heap.size _ Ls.length Ls ⟨w4.heap.size, 1, [wrap64 (m + 1)]⟩ (unhide OW5) (by omega) (by omega)
    (try simp only [List.length_cons, List.length_nil, Nat.zero_add] at hrun6); (try simp only [Nat.reduceAdd] at hrun6)
    have gb6 := own_base ow6
    have s6 := gr6.size
    have nr : ∀ k, k < w2.heap.size → (Value.slice (some ⟨g3, 0, none⟩) Ls.length c3).ownBlock ≠ some k := fun k hk e => by simp [Value.ownBlock] at e; omega
    have PM6 : Hid (Made w6 w.heap.size 2) := ⟨by have := (unhide PM4).1; omega, fun j hj => by
      obtain ⟨⟨u, hu⟩, hf⟩ := ((unhide PM4).later b5).2 j hj
      exact ⟨⟨u, grown_cell gr6 hu (nr _ (by simp only; omega))⟩, grown_frozen gr6 hu (nr _ (by simp only; omega)) hf⟩⟩
    have RM6 : Hid (Made w6 (w.heap.size + 1) 2) := ⟨by have := (unhide RM4).1; omega, fun j hj => by
      obtain ⟨⟨u, hu⟩, hf⟩ := ((unhide RM4).later b5).2 j hj
      exact ⟨⟨u, grown_cell gr6 hu (nr _ (by simp only; omega))⟩, grown_frozen gr6 hu (nr _ (by simp only; omega)) hf⟩⟩
    have p60 := grown_cell gr6 (cell_later b5 p40) (nr _ (by simp only; omega))
    have p61 := grown_cell gr6 (cell_later b5 p41) (nr _ (by simp only; omega))
    have pl6 := World.block_lt_of_cell? _ _ p60
    simp only at pl6
    have f61 := ((unhide PM6).2 1 (by omega)).2
    have R6 : Rd w6 R (N + 1) := (R4.below b5).grown gr6 (fun j h => by simp [Value.ownBlock] at h; omega)
    have MV6 : Mov R w w6 := (MV4.from b5).grown gr6 (fun j h => by simp [Value.ownBlock] at h; omega)
    have OK6 : Hid (∀ q, q ∈ Ls ++ [⟨w4.heap.size, 1, [wrap64 (m + 1)]⟩] → q.Ok w6 R ∧ q.g ≠ w.heap.size ∧ q.g ≠ w.heap.size + 1) := fun q hq => by
      rcases List.mem_append.1 hq with hq | hq
      · have h1 := (unhide OK4 q hq).later b5
        have h2 := unhide HBL q hq
        exact ⟨h1.grown gr6 (by simp [Value.ownBlock]; omega), by omega, by omega⟩
      · simp at hq; subst hq
        exact ⟨q5.grown gr6 (by simp [Value.ownBlock]; omega), by simp only; omega, by simp only; omega⟩
    have OW6 := hide ow6
    rw [hw5] at hrun6
    simp only [World.size_alloc] at hrun6
    have HR6 := hide hrun6
    clear hrun6 ow6 gr6 q5 b5 hw5 OW5 HC4 nr
    have hgc : g6 ≠ w.heap.size := by omega
    have CL7 := hide ((own_clz (unhide OW6) (by omega) (fun q hq => (unhide OK6 q hq).1)).set (b := w.heap.size) (o := 1) (x := .slice (some ⟨g6, 0, none⟩) (Ls.length + 1) c6) (fun q hq => (unhide OK6 q hq).2.1) (by simp [Value.ownBlock]; omega))
    have PM7 := hide ((unhide PM6).set ⟨w.heap.size, 1, none⟩ (.slice (some ⟨g6, 0, none⟩) (Ls.length + 1) c6))
    have RM7 := hide ((unhide RM6).set ⟨w.heap.size, 1, none⟩ (.slice (some ⟨g6, 0, none⟩) (Ls.length + 1) c6))
    have R7 := R6.set (b := w.heap.size) (by omega) 1 (.slice (some ⟨g6, 0, none⟩) (Ls.length + 1) c6)
    have MV7 := MV6.setNew (b := w.heap.size) (Nat.le_refl _) 1 (.slice (some ⟨g6, 0, none⟩) (Ls.length + 1) c6)
    have p70 : (w6.setCell ⟨w.heap.size, 1, none⟩ (.slice (some ⟨g6, 0, none⟩) (Ls.length + 1) c6)).cell? ⟨w.heap.size, 0, none⟩ = some (.int .i64 m) := by rw [World.cell?_setCell_other _ _ _ _ (by simp)]; exact p60
    have p71 : (w6.setCell ⟨w.heap.size, 1, none⟩ (.slice (some ⟨g6, 0, none⟩) (Ls.length + 1) c6)).cell? ⟨w.heap.size, 1, none⟩ = some (.slice (some ⟨g6, 0, none⟩) (Ls.length + 1) c6) := World.cell?_setCell_same _ _ _ p61
    have c0 := ((unhide RM7).2 0 (by omega)).2
    have c1 := ((unhide RM7).2 1 (by omega)).2
    obtain ⟨d0, e0⟩ := ((unhide RM7).2 0 (by omega)).1
    obtain ⟨d1, e1⟩ := ((unhide RM7).2 1 (by omega)).1
    have nb : w.heap.size ≠ w.heap.size + 1 := by omega
    have nb' : w.heap.size + 1 ≠ w.heap.size := by omega
    have CLf := hide (((unhide CL7).set (b := w.heap.size + 1) (o := 0) (x := .int .i64 m) (fun q hq => (unhide OK6 q hq).2.2) (by simp [Value.ownBlock]; omega)).set (b := w.heap.size + 1) (o := 1) (x := (.slice (some ⟨g6, 0, none⟩) (Ls.length + 1) c6)) (fun q hq => (unhide OK6 q hq).2.2) (by simp [Value.ownBlock]; omega))
    have RDf : Rd (((w6.setCell ⟨w.heap.size, 1, none⟩ (.slice (some ⟨g6, 0, none⟩) (Ls.length + 1) c6)).setCell ⟨w.heap.size + 1, 0, none⟩ (.int .i64 m)).setCell ⟨w.heap.size + 1, 1, none⟩ (.slice (some ⟨g6, 0, none⟩) (Ls.length + 1) c6)) R (N + 10) := ((R7.set (by omega) _ _).set (by omega) _ _).mono (by omega)
    have MVf : Mov R w (((w6.setCell ⟨w.heap.size, 1, none⟩ (.slice (some ⟨g6, 0, none⟩) (Ls.length + 1) c6)).setCell ⟨w.heap.size + 1, 0, none⟩ (.int .i64 m)).setCell ⟨w.heap.size + 1, 1, none⟩ (.slice (some ⟨g6, 0, none⟩) (Ls.length + 1) c6)) := (MV7.setNew (by omega) _ _).setNew (by omega) _ _
    go_wp2_with (first | (at_builtin; refine wpList_append_run _ rfl (.tmp 14) (.tmp 19) 23 rfl _ _ _ _ rfl rfl (unhide HR6) ?_) | fail)
    exact bodyPost_ret (v := .agg #[.int .i64 m, (.slice (some ⟨g6, 0, none⟩) (Ls.length + 1) c6)]) (by simp [results, Try.results11, go_sem, e0, e1]) rfl ⟨⟨_, _, _, rfl, hm, by simp; omega, unhide CLf⟩, RDf, MVf⟩
  · have x0b : (x == 0) = false := by simp [h0]
    by_cases h1 : x = 1
    · subst h1
      obtain ⟨w5, hw5⟩ : ∃ x, x = w4.alloc (.cells #[.int .i64 1, .int .i64 (-1)] 3) := ⟨_, rfl⟩
      have b5 : Below w4.heap.size w4 w5 := by rw [hw5]; exact (Below.refl _ _).alloc (Nat.le_refl _) _
      have s5 : w5.heap.size = w4.heap.size + 1 := by rw [hw5]; simp
      have q5 : (Clz.mk w4.heap.size 2 [1, -1]).Ok w5 R := by rw [hw5]; exact clz_lit w4 R #[.int .i64 1, .int .i64 (-1)] [1, -1] rfl (by omega) (by simp) (by intro x hx; simp at hx; unfold W64; omega)
      have OW5 := hide ((unhide OW4).kept (grown_below b5) (Or.inr (by simp [Value.ownBlock])))
      obtain ⟨g6, c6, w6, hrun6, ow6, gr6, hg6⟩ := clz_one w5 w2.heap.size _ Ls.length Ls ⟨w4.heap.size, 2, [1, -1]⟩ (unhide OW5) (by omega) (by omega)
      (try simp only [List.length_cons, List.length_nil, Nat.zero_add] at hrun6); (try simp only [Nat.reduceAdd] at hrun6)
      have gb6 := own_base ow6
      have s6 := gr6.size
      have nr : ∀ k, k < w2.heap.size → (Value.slice (some ⟨g3, 0, none⟩) Ls.length c3).ownBlock ≠ some k := fun k hk e => by simp [Value.ownBlock] at e; omega
      have PM6 : Hid (Made w6 w.heap.size 2) := ⟨by have := (unhide PM4).1; omega, fun j hj => by
        obtain ⟨⟨u, hu⟩, hf⟩ := ((unhide PM4).later b5).2 j hj
        exact ⟨⟨u, grown_cell gr6 hu (nr _ (by simp only; omega))⟩, grown_frozen gr6 hu (nr _ (by simp only; omega)) hf⟩⟩
      have RM6 : Hid (Made w6 (w.heap.size + 1) 2) := ⟨by have := (unhide RM4).1; omega, fun j hj => by
        obtain ⟨⟨u, hu⟩, hf⟩ := ((unhide RM4).later b5).2 j hj
        exact ⟨⟨u, grown_cell gr6 hu (nr _ (by simp only; omega))⟩, grown_frozen gr6 hu (nr _ (by simp only; omega)) hf⟩⟩
      have p60 := grown_cell gr6 (cell_later b5 p40) (nr _ (by simp only; omega))
      have p61 := grown_cell gr6 (cell_later b5 p41) (nr _ (by simp only; omega))
      have pl6 := World.block_lt_of_cell? _ _ p60
      simp only at pl6
      have f61 := ((unhide PM6).2 1 (by omega)).2
      have R6 : Rd w6 R (N + 1) := (R4.below b5).grown gr6 (fun j h => by simp [Value.ownBlock] at h; omega)
      have MV6 : Mov R w w6 := (MV4.from b5).grown gr6 (fun j h => by simp [Value.ownBlock] at h; omega)
      have OK6 : Hid (∀ q, q ∈ Ls ++ [⟨w4.heap.size, 2, [1, -1]⟩] → q.Ok w6 R ∧ q.g ≠ w.heap.size ∧ q.g ≠ w.heap.size + 1) := fun q hq => by
        rcases List.mem_append.1 hq with hq | hq
        · have h1 := (unhide OK4 q hq).later b5
          have h2 := unhide HBL q hq
          exact ⟨h1.grown gr6 (by simp [Value.ownBlock]; omega), by omega, by omega⟩
        · simp at hq; subst hq
          exact ⟨q5.grown gr6 (by simp [Value.ownBlock]; omega), by simp only; omega, by simp only; omega⟩
      have OW6 := hide ow6
      rw [hw5] at hrun6
      simp only [World.size_alloc] at hrun6
      have HR6 := hide hrun6
      clear hrun6 ow6 gr6 q5 b5 hw5 OW5 HC4 nr
      have hgc : g6 ≠ w.heap.size := by omega
      have CL7 := hide ((own_clz (unhide OW6) (by omega) (fun q hq => (unhide OK6 q hq).1)).set (b := w.heap.size) (o := 1) (x := .slice (some ⟨g6, 0, none⟩) (Ls.length + 1) c6) (fun q hq => (unhide OK6 q hq).2.1) (by simp [Value.ownBlock]; omega))
      have PM7 := hide ((unhide PM6).set ⟨w.heap.size, 1, none⟩ (.slice (some ⟨g6, 0, none⟩) (Ls.length + 1) c6))
      have RM7 := hide ((unhide RM6).set ⟨w.heap.size, 1, none⟩ (.slice (some ⟨g6, 0, none⟩) (Ls.length + 1) c6))
      have R7 := R6.set (b := w.heap.size) (by omega) 1 (.slice (some ⟨g6, 0, none⟩) (Ls.length + 1) c6)
      have MV7 := MV6.setNew (b := w.heap.size) (Nat.le_refl _) 1 (.slice (some ⟨g6, 0, none⟩) (Ls.length + 1) c6)
      have p70 : (w6.setCell ⟨w.heap.size, 1, none⟩ (.slice (some ⟨g6, 0, none⟩) (Ls.length + 1) c6)).cell? ⟨w.heap.size, 0, none⟩ = some (.int .i64 m) := by rw [World.cell?_setCell_other _ _ _ _ (by simp)]; exact p60
      have p71 : (w6.setCell ⟨w.heap.size, 1, none⟩ (.slice (some ⟨g6, 0, none⟩) (Ls.length + 1) c6)).cell? ⟨w.heap.size, 1, none⟩ = some (.slice (some ⟨g6, 0, none⟩) (Ls.length + 1) c6) := World.cell?_setCell_same _ _ _ p61
      have c0 := ((unhide RM7).2 0 (by omega)).2
      have c1 := ((unhide RM7).2 1 (by omega)).2
      obtain ⟨d0, e0⟩ := ((unhide RM7).2 0 (by omega)).1
      obtain ⟨d1, e1⟩ := ((unhide RM7).2 1 (by omega)).1
      have nb : w.heap.size ≠ w.heap.size + 1 := by omega
      have nb' : w.heap.size + 1 ≠ w.heap.size := by omega
      have CLf := hide (((unhide CL7).set (b := w.heap.size + 1) (o := 0) (x := .int .i64 m) (fun q hq => (unhide OK6 q hq).2.2) (by simp [Value.ownBlock]; omega)).set (b := w.heap.size + 1) (o := 1) (x := (.slice (some ⟨g6, 0, none⟩) (Ls.length + 1) c6)) (fun q hq => (unhide OK6 q hq).2.2) (by simp [Value.ownBlock]; omega))
      have RDf : Rd (((w6.setCell ⟨w.heap.size, 1, none⟩ (.slice (some ⟨g6, 0, none⟩) (Ls.length + 1) c6)).setCell ⟨w.heap.size + 1, 0, none⟩ (.int .i64 m)).setCell ⟨w.heap.size + 1, 1, none⟩ (.slice (some ⟨g6, 0, none⟩) (Ls.length + 1) c6)) R (N + 10) := ((R7.set (by omega) _ _).set (by omega) _ _).mono (by omega)
      have MVf : Mov R w (((w6.setCell ⟨w.heap.size, 1, none⟩ (.slice (some ⟨g6, 0, none⟩) (Ls.length + 1) c6)).setCell ⟨w.heap.size + 1, 0, none⟩ (.int .i64 m)).setCell ⟨w.heap.size + 1, 1, none⟩ (.slice (some ⟨g6, 0, none⟩) (Ls.length + 1) c6)) := (MV7.setNew (by omega) _ _).setNew (by omega) _ _
      go_wp2_with (first | (at_builtin; refine wpList_append_run _ rfl (.tmp 24) (.tmp 26) 23 rfl _ _ _ _ rfl rfl (unhide HR6) ?_) | fail)
      exact bodyPost_ret (v := .agg #[.int .i64 m, (.slice (some ⟨g6, 0, none⟩) (Ls.length + 1) c6)]) (by simp [results, Try.results11, go_sem, e0, e1]) rfl ⟨⟨_, _, _, rfl, hm, by simp; omega, unhide CLf⟩, RDf, MVf⟩
    · have x1b : (x == 1) = false := by simp [h1]
      by_cases h2 : x = 2
      · subst h2
        obtain ⟨w5, hw5⟩ : ∃ x, x = w4.alloc (.cells #[.int .i64 0] 3) := ⟨_, rfl⟩
        have b5 : Below w4.heap.size w4 w5 := by rw [hw5]; exact (Below.refl _ _).alloc (Nat.le_refl _) _
        have s5 : w5.heap.size = w4.heap.size + 1 := by rw [hw5]; simp
        have q5 : (Clz.mk w4.heap.size 1 [0]).Ok w5 R := by rw [hw5]; exact clz_lit w4 R #[.int .i64 0] [0] rfl (by omega) (by simp) (by intro x hx; simp at hx; unfold W64; omega)
        have OW5 := hide ((unhide OW4).kept (grown_below b5) (Or.inr (by simp [Value.ownBlock])))
        obtain ⟨g6, c6, w6, hrun6, ow6, gr6, hg6⟩ := clz_one w5 w2.heap.size _ Ls.length Ls ⟨w4.heap.size, 1, [0]⟩ (unhide OW5) (by omega) (by omega)
        (try simp only [List.length_cons, List.length_nil, Nat.zero_add] at hrun6); (try simp only [Nat.reduceAdd] at hrun6)
        have gb6 := own_base ow6
        have s6 := gr6.size
        have nr : ∀ k, k < w2.heap.size → (Value.slice (some ⟨g3, 0, none⟩) Ls.length c3).ownBlock ≠ some k := fun k hk e => by simp [Value.ownBlock] at e; omega
        have PM6 : Hid (Made w6 w.heap.size 2) := ⟨by have := (unhide PM4).1; omega, fun j hj => by
          obtain ⟨⟨u, hu⟩, hf⟩ := ((unhide PM4).later b5).2 j hj
          exact ⟨⟨u, grown_cell gr6 hu (nr _ (by simp only; omega))⟩, grown_frozen gr6 hu (nr _ (by simp only; omega)) hf⟩⟩
        have RM6 : Hid (Made w6 (w.heap.size + 1) 2) := ⟨by have := (unhide RM4).1; omega, fun j hj => by
          obtain ⟨⟨u, hu⟩, hf⟩ := ((unhide RM4).later b5).2 j hj
          exact ⟨⟨u, grown_cell gr6 hu (nr _ (by simp only; omega))⟩, grown_frozen gr6 hu (nr _ (by simp only; omega)) hf⟩⟩
        have p60 := grown_cell gr6 (cell_later b5 p40) (nr _ (by simp only; omega))
        have p61 := grown_cell gr6 (cell_later b5 p41) (nr _ (by simp only; omega))
        have pl6 := World.block_lt_of_cell? _ _ p60
        simp only at pl6
        have f61 := ((unhide PM6).2 1 (by omega)).2
        have R6 : Rd w6 R (N + 1) := (R4.below b5).grown gr6 (fun j h => by simp [Value.ownBlock] at h; omega)
        have MV6 : Mov R w w6 := (MV4.from b5).grown gr6 (fun j h => by simp [Value.ownBlock] at h; omega)
        have OK6 : Hid (∀ q, q ∈ Ls ++ [⟨w4.heap.size, 1, [0]⟩] → q.Ok w6 R ∧ q.g ≠ w.heap.size ∧ q.g ≠ w.heap.size + 1) := fun q hq => by
          rcases List.mem_append.1 hq with hq | hq
          · have h1 := (unhide OK4 q hq).later b5
            have h2 := unhide HBL q hq
            exact ⟨h1.grown gr6 (by simp [Value.ownBlock]; omega), by omega, by omega⟩
          · simp at hq; subst hq
            exact ⟨q5.grown gr6 (by simp [Value.ownBlock]; omega), by simp only; omega, by simp only; omega⟩
        have OW6 := hide ow6
        rw [hw5] at hrun6
        simp only [World.size_alloc] at hrun6
        have HR6 := hide hrun6
        clear hrun6 ow6 gr6 q5 b5 hw5 OW5 HC4 nr
        have hgc : g6 ≠ w.heap.size := by omega
        have CL7 := hide ((own_clz (unhide OW6) (by omega) (fun q hq => (unhide OK6 q hq).1)).set (b := w.heap.size) (o := 1) (x := .slice (some ⟨g6, 0, none⟩) (Ls.length + 1) c6) (fun q hq => (unhide OK6 q hq).2.1) (by simp [Value.ownBlock]; omega))
        have PM7 := hide ((unhide PM6).set ⟨w.heap.size, 1, none⟩ (.slice (some ⟨g6, 0, none⟩) (Ls.length + 1) c6))
        have RM7 := hide ((unhide RM6).set ⟨w.heap.size, 1, none⟩ (.slice (some ⟨g6, 0, none⟩) (Ls.length + 1) c6))
        have R7 := R6.set (b := w.heap.size) (by omega) 1 (.slice (some ⟨g6, 0, none⟩) (Ls.length + 1) c6)
        have MV7 := MV6.setNew (b := w.heap.size) (Nat.le_refl _) 1 (.slice (some ⟨g6, 0, none⟩) (Ls.length + 1) c6)
        have p70 : (w6.setCell ⟨w.heap.size, 1, none⟩ (.slice (some ⟨g6, 0, none⟩) (Ls.length + 1) c6)).cell? ⟨w.heap.size, 0, none⟩ = some (.int .i64 m) := by rw [World.cell?_setCell_other _ _ _ _ (by simp)]; exact p60
        have p71 : (w6.setCell ⟨w.heap.size, 1, none⟩ (.slice (some ⟨g6, 0, none⟩) (Ls.length + 1) c6)).cell? ⟨w.heap.size, 1, none⟩ = some (.slice (some ⟨g6, 0, none⟩) (Ls.length + 1) c6) := World.cell?_setCell_same _ _ _ p61
        have c0 := ((unhide RM7).2 0 (by omega)).2
        have c1 := ((unhide RM7).2 1 (by omega)).2
        obtain ⟨d0, e0⟩ := ((unhide RM7).2 0 (by omega)).1
        obtain ⟨d1, e1⟩ := ((unhide RM7).2 1 (by omega)).1
        have nb : w.heap.size ≠ w.heap.size + 1 := by omega
        have nb' : w.heap.size + 1 ≠ w.heap.size := by omega
        have CLf := hide (((unhide CL7).set (b := w.heap.size + 1) (o := 0) (x := .int .i64 m) (fun q hq => (unhide OK6 q hq).2.2) (by simp [Value.ownBlock]; omega)).set (b := w.heap.size + 1) (o := 1) (x := (.slice (some ⟨g6, 0, none⟩) (Ls.length + 1) c6)) (fun q hq => (unhide OK6 q hq).2.2) (by simp [Value.ownBlock]; omega))
        have RDf : Rd (((w6.setCell ⟨w.heap.size, 1, none⟩ (.slice (some ⟨g6, 0, none⟩) (Ls.length + 1) c6)).setCell ⟨w.heap.size + 1, 0, none⟩ (.int .i64 m)).setCell ⟨w.heap.size + 1, 1, none⟩ (.slice (some ⟨g6, 0, none⟩) (Ls.length + 1) c6)) R (N + 10) := ((R7.set (by omega) _ _).set (by omega) _ _).mono (by omega)
        have MVf : Mov R w (((w6.setCell ⟨w.heap.size, 1, none⟩ (.slice (some ⟨g6, 0, none⟩) (Ls.length + 1) c6)).setCell ⟨w.heap.size + 1, 0, none⟩ (.int .i64 m)).setCell ⟨w.heap.size + 1, 1, none⟩ (.slice (some ⟨g6, 0, none⟩) (Ls.length + 1) c6)) := (MV7.setNew (by omega) _ _).setNew (by omega) _ _
        go_wp2_with (first | (at_builtin; refine wpList_append_run _ rfl (.tmp 31) (.tmp 33) 23 rfl _ _ _ _ rfl rfl (unhide HR6) ?_) | fail)
        exact bodyPost_ret (v := .agg #[.int .i64 m, (.slice (some ⟨g6, 0, none⟩) (Ls.length + 1) c6)]) (by simp [results, Try.results11, go_sem, e0, e1]) rfl ⟨⟨_, _, _, rfl, hm, by simp; omega, unhide CLf⟩, RDf, MVf⟩
      · have x2b : (x == 2) = false := by simp [h2]
        by_cases h3 : x = 3
        · subst h3
          go_wp2_with fail
          refine (num_new R _ [-1, 0, 701, 9223372036854775807, wrap64 (m + 3)] _ 5 w4 R4 (by omega) rfl rfl (by omega) (by omega)).mono ?_
          rintro e w5 ⟨j, hj, rfl, R5, m5⟩
          have hz : W64 ([-1, 0, 701, 9223372036854775807, wrap64 (m + 3)].getD j 0) := by
            match j, hj with
            | 0, _ => unfold W64; simp
            | 1, _ => unfold W64; simp
            | 2, _ => unfold W64; simp
            | 3, _ => unfold W64; simp
            | 4, _ => exact w64_wrap _
          generalize [-1, 0, 701, 9223372036854775807, wrap64 (m + 3)].getD j 0 = mm at hz
          have MV5 := MV4.trans m5
          have s5 := m5.size
          have PM5 := hide ((unhide PM4).mov m5 (by omega))
          have RM5 := hide ((unhide RM4).mov m5 (by omega))
          have HC5 := hide ((unhide HC4).mov m5)
          have p50 := m5.cell p40 (by simp only; omega)
          have p51 := m5.cell p41 (by simp only; omega)
          have f50 := ((unhide PM5).2 0 (by omega)).2
          clear m5 PM4 RM4 HC4
          have CL7 := hide ((unhide HC5).set (b := w.heap.size) (o := 0) (x := .int .i64 mm) (fun q hq => by have := unhide HBL q hq; omega) (fun e => by have := unhide hov _ e; omega))
          have PM7 := hide ((unhide PM5).set ⟨w.heap.size, 0, none⟩ (.int .i64 mm))
          have RM7 := hide ((unhide RM5).set ⟨w.heap.size, 0, none⟩ (.int .i64 mm))
          have R7 := R5.set (b := w.heap.size) (by omega) 0 (.int .i64 mm)
          have MV7 := MV5.setNew (b := w.heap.size) (Nat.le_refl _) 0 (.int .i64 mm)
          have p70 : (w5.setCell ⟨w.heap.size, 0, none⟩ (.int .i64 mm)).cell? ⟨w.heap.size, 0, none⟩ = some (.int .i64 mm) := World.cell?_setCell_same _ _ _ p50
          have p71 : (w5.setCell ⟨w.heap.size, 0, none⟩ (.int .i64 mm)).cell? ⟨w.heap.size, 1, none⟩ = some (.slice a Ls.length cp) := by rw [World.cell?_setCell_other _ _ _ _ (by simp)]; exact p51
          have pl7 := World.block_lt_of_cell? _ _ p50
          simp only at pl7
          have c0 := ((unhide RM7).2 0 (by omega)).2
          have c1 := ((unhide RM7).2 1 (by omega)).2
          obtain ⟨d0, e0⟩ := ((unhide RM7).2 0 (by omega)).1
          obtain ⟨d1, e1⟩ := ((unhide RM7).2 1 (by omega)).1
          have nb : w.heap.size ≠ w.heap.size + 1 := by omega
          have nb' : w.heap.size + 1 ≠ w.heap.size := by omega
          have CLf := hide (((unhide CL7).set (b := w.heap.size + 1) (o := 0) (x := .int .i64 mm) (fun q hq => by have := unhide HBL q hq; omega) (fun e => by have := unhide hov _ e; omega)).set (b := w.heap.size + 1) (o := 1) (x := (.slice a Ls.length cp)) (fun q hq => by have := unhide HBL q hq; omega) (fun e => by have := unhide hov _ e; omega))
          have RDf : Rd (((w5.setCell ⟨w.heap.size, 0, none⟩ (.int .i64 mm)).setCell ⟨w.heap.size + 1, 0, none⟩ (.int .i64 mm)).setCell ⟨w.heap.size + 1, 1, none⟩ (.slice a Ls.length cp)) R (N + 10) := ((R7.set (by omega) _ _).set (by omega) _ _).mono (by omega)
          have MVf : Mov R w (((w5.setCell ⟨w.heap.size, 0, none⟩ (.int .i64 mm)).setCell ⟨w.heap.size + 1, 0, none⟩ (.int .i64 mm)).setCell ⟨w.heap.size + 1, 1, none⟩ (.slice a Ls.length cp)) := (MV7.setNew (by omega) _ _).setNew (by omega) _ _
          go_wp2
          exact bodyPost_ret (v := .agg #[.int .i64 mm, (.slice a Ls.length cp)]) (by simp [results, Try.results11, go_sem, e0, e1]) rfl ⟨⟨_, _, Ls, rfl, hz, by omega, unhide CLf⟩, RDf, MVf⟩
        · have x3b : (x == 3) = false := by simp [h3]
          by_cases h4 : x = 4
          · subst h4
            obtain ⟨w5, hw5⟩ : ∃ x, x = w4.alloc (.cells #[.int .i64 (-9223372036854775808)] 3) := ⟨_, rfl⟩
            have b5 : Below w4.heap.size w4 w5 := by rw [hw5]; exact (Below.refl _ _).alloc (Nat.le_refl _) _
            have s5 : w5.heap.size = w4.heap.size + 1 := by rw [hw5]; simp
            have q5 : (Clz.mk w4.heap.size 1 [-9223372036854775808]).Ok w5 R := by rw [hw5]; exact clz_lit w4 R #[.int .i64 (-9223372036854775808)] [-9223372036854775808] rfl (by omega) (by simp) (by intro x hx; simp at hx; unfold W64; omega)
            have OW5 := hide ((unhide OW4).kept (grown_below b5) (Or.inr (by simp [Value.ownBlock])))
            obtain ⟨g6, c6, w6, hrun6, ow6, gr6, hg6⟩ := clz_one w5 w2.heap.size _ Ls.length Ls ⟨w4.heap.size, 1, [-9223372036854775808]⟩ (unhide OW5) (by omega) (by omega)
            (try simp only [List.length_cons, List.length_nil, Nat.zero_add] at hrun6); (try simp only [Nat.reduceAdd] at hrun6)
            have gb6 := own_base ow6
            have s6 := gr6.size
            have nr : ∀ k, k < w2.heap.size → (Value.slice (some ⟨g3, 0, none⟩) Ls.length c3).ownBlock ≠ some k := fun k hk e => by simp [Value.ownBlock] at e; omega
            have PM6 : Hid (Made w6 w.heap.size 2) := ⟨by have := (unhide PM4).1; omega, fun j hj => by
              obtain ⟨⟨u, hu⟩, hf⟩ := ((unhide PM4).later b5).2 j hj
              exact ⟨⟨u, grown_cell gr6 hu (nr _ (by simp only; omega))⟩, grown_frozen gr6 hu (nr _ (by simp only; omega)) hf⟩⟩
            have RM6 : Hid (Made w6 (w.heap.size + 1) 2) := ⟨by have := (unhide RM4).1; omega, fun j hj => by
              obtain ⟨⟨u, hu⟩, hf⟩ := ((unhide RM4).later b5).2 j hj
              exact ⟨⟨u, grown_cell gr6 hu (nr _ (by simp only; omega))⟩, grown_frozen gr6 hu (nr _ (by simp only; omega)) hf⟩⟩
            have p60 := grown_cell gr6 (cell_later b5 p40) (nr _ (by simp only; omega))
            have p61 := grown_cell gr6 (cell_later b5 p41) (nr _ (by simp only; omega))
            have pl6 := World.block_lt_of_cell? _ _ p60
            simp only at pl6
            have f61 := ((unhide PM6).2 1 (by omega)).2
            have R6 : Rd w6 R (N + 1) := (R4.below b5).grown gr6 (fun j h => by simp [Value.ownBlock] at h; omega)
            have MV6 : Mov R w w6 := (MV4.from b5).grown gr6 (fun j h => by simp [Value.ownBlock] at h; omega)
            have OK6 : Hid (∀ q, q ∈ Ls ++ [⟨w4.heap.size, 1, [-9223372036854775808]⟩] → q.Ok w6 R ∧ q.g ≠ w.heap.size ∧ q.g ≠ w.heap.size + 1) := fun q hq => by
              rcases List.mem_append.1 hq with hq | hq
              · have h1 := (unhide OK4 q hq).later b5
                have h2 := unhide HBL q hq
                exact ⟨h1.grown gr6 (by simp [Value.ownBlock]; omega), by omega, by omega⟩
              · simp at hq; subst hq
                exact ⟨q5.grown gr6 (by simp [Value.ownBlock]; omega), by simp only; omega, by simp only; omega⟩
            have OW6 := hide ow6
            rw [hw5] at hrun6
            simp only [World.size_alloc] at hrun6
            have HR6 := hide hrun6
            clear hrun6 ow6 gr6 q5 b5 hw5 OW5 HC4 nr
            have hgc : g6 ≠ w.heap.size := by omega
            have CL7 := hide ((own_clz (unhide OW6) (by omega) (fun q hq => (unhide OK6 q hq).1)).set (b := w.heap.size) (o := 1) (x := .slice (some ⟨g6, 0, none⟩) (Ls.length + 1) c6) (fun q hq => (unhide OK6 q hq).2.1) (by simp [Value.ownBlock]; omega))
            have PM7 := hide ((unhide PM6).set ⟨w.heap.size, 1, none⟩ (.slice (some ⟨g6, 0, none⟩) (Ls.length + 1) c6))
            have RM7 := hide ((unhide RM6).set ⟨w.heap.size, 1, none⟩ (.slice (some ⟨g6, 0, none⟩) (Ls.length + 1) c6))
            have R7 := R6.set (b := w.heap.size) (by omega) 1 (.slice (some ⟨g6, 0, none⟩) (Ls.length + 1) c6)
            have MV7 := MV6.setNew (b := w.heap.size) (Nat.le_refl _) 1 (.slice (some ⟨g6, 0, none⟩) (Ls.length + 1) c6)
            have p70 : (w6.setCell ⟨w.heap.size, 1, none⟩ (.slice (some ⟨g6, 0, none⟩) (Ls.length + 1) c6)).cell? ⟨w.heap.size, 0, none⟩ = some (.int .i64 m) := by rw [World.cell?_setCell_other _ _ _ _ (by simp)]; exact p60
            have p71 : (w6.setCell ⟨w.heap.size, 1, none⟩ (.slice (some ⟨g6, 0, none⟩) (Ls.length + 1) c6)).cell? ⟨w.heap.size, 1, none⟩ = some (.slice (some ⟨g6, 0, none⟩) (Ls.length + 1) c6) := World.cell?_setCell_same _ _ _ p61
            have c0 := ((unhide RM7).2 0 (by omega)).2
            have c1 := ((unhide RM7).2 1 (by omega)).2
            obtain ⟨d0, e0⟩ := ((unhide RM7).2 0 (by omega)).1
            obtain ⟨d1, e1⟩ := ((unhide RM7).2 1 (by omega)).1
            have nb : w.heap.size ≠ w.heap.size + 1 := by omega
            have nb' : w.heap.size + 1 ≠ w.heap.size := by omega
            have CLf := hide (((unhide CL7).set (b := w.heap.size + 1) (o := 0) (x := .int .i64 m) (fun q hq => (unhide OK6 q hq).2.2) (by simp [Value.ownBlock]; omega)).set (b := w.heap.size + 1) (o := 1) (x := (.slice (some ⟨g6, 0, none⟩) (Ls.length + 1) c6)) (fun q hq => (unhide OK6 q hq).2.2) (by simp [Value.ownBlock]; omega))
            have RDf : Rd (((w6.setCell ⟨w.heap.size, 1, none⟩ (.slice (some ⟨g6, 0, none⟩) (Ls.length + 1) c6)).setCell ⟨w.heap.size + 1, 0, none⟩ (.int .i64 m)).setCell ⟨w.heap.size + 1, 1, none⟩ (.slice (some ⟨g6, 0, none⟩) (Ls.length + 1) c6)) R (N + 10) := ((R7.set (by omega) _ _).set (by omega) _ _).mono (by omega)
            have MVf : Mov R w (((w6.setCell ⟨w.heap.size, 1, none⟩ (.slice (some ⟨g6, 0, none⟩) (Ls.length + 1) c6)).setCell ⟨w.heap.size + 1, 0, none⟩ (.int .i64 m)).setCell ⟨w.heap.size + 1, 1, none⟩ (.slice (some ⟨g6, 0, none⟩) (Ls.length + 1) c6)) := (MV7.setNew (by omega) _ _).setNew (by omega) _ _
            go_wp2_with (first | (at_builtin; refine wpList_append_run _ rfl (.tmp 47) (.tmp 49) 23 rfl _ _ _ _ rfl rfl (unhide HR6) ?_) | fail)
            exact bodyPost_ret (v := .agg #[.int .i64 m, (.slice (some ⟨g6, 0, none⟩) (Ls.length + 1) c6)]) (by simp [results, Try.results11, go_sem, e0, e1]) rfl ⟨⟨_, _, _, rfl, hm, by simp; omega, unhide CLf⟩, RDf, MVf⟩
          · have x4b : (x == 4) = false := by simp [h4]
            by_cases h5 : x = 5
            · subst h5
              obtain ⟨w5, hw5⟩ : ∃ x, x = w4.alloc (.cells #[.int .i64 2, .int .i64 1] 3) := ⟨_, rfl⟩
              have b5 : Below w4.heap.size w4 w5 := by rw [hw5]; exact (Below.refl _ _).alloc (Nat.le_refl _) _
              have s5 : w5.heap.size = w4.heap.size + 1 := by rw [hw5]; simp
              have q5 : (Clz.mk w4.heap.size 2 [2, 1]).Ok w5 R := by rw [hw5]; exact clz_lit w4 R #[.int .i64 2, .int .i64 1] [2, 1] rfl (by omega) (by simp) (by intro x hx; simp at hx; unfold W64; omega)
              have OW5 := hide ((unhide OW4).kept (grown_below b5) (Or.inr (by simp [Value.ownBlock])))
              obtain ⟨g6, c6, w6, hrun6, ow6, gr6, hg6⟩ := clz_one w5 w2.heap.size _ Ls.length Ls ⟨w4.heap.size, 2, [2, 1]⟩ (unhide OW5) (by omega) (by omega)
              (try simp only [List.length_cons, List.length_nil, Nat.zero_add] at hrun6); (try simp only [Nat.reduceAdd] at hrun6)
              have gb6 := own_base ow6
              have s6 := gr6.size
              have nr : ∀ k, k < w2.heap.size → (Value.slice (some ⟨g3, 0, none⟩) Ls.length c3).ownBlock ≠ some k := fun k hk e => by simp [Value.ownBlock] at e; omega
              have PM6 : Hid (Made w6 w.heap.size 2) := ⟨by have := (unhide PM4).1; omega, fun j hj => by
                obtain ⟨⟨u, hu⟩, hf⟩ := ((unhide PM4).later b5).2 j hj
                exact ⟨⟨u, grown_cell gr6 hu (nr _ (by simp only; omega))⟩, grown_frozen gr6 hu (nr _ (by simp only; omega)) hf⟩⟩
              have RM6 : Hid (Made w6 (w.heap.size + 1) 2) := ⟨by have := (unhide RM4).1; omega, fun j hj => by
                obtain ⟨⟨u, hu⟩, hf⟩ := ((unhide RM4).later b5).2 j hj
                exact ⟨⟨u, grown_cell gr6 hu (nr _ (by simp only; omega))⟩, grown_frozen gr6 hu (nr _ (by simp only; omega)) hf⟩⟩
              have p60 := grown_cell gr6 (cell_later b5 p40) (nr _ (by simp only; omega))
              have p61 := grown_cell gr6 (cell_later b5 p41) (nr _ (by simp only; omega))
              have pl6 := World.block_lt_of_cell? _ _ p60
              simp only at pl6
              have f61 := ((unhide PM6).2 1 (by omega)).2
              have R6 : Rd w6 R (N + 1) := (R4.below b5).grown gr6 (fun j h => by simp [Value.ownBlock] at h; omega)
              have MV6 : Mov R w w6 := (MV4.from b5).grown gr6 (fun j h => by simp [Value.ownBlock] at h; omega)
              have OK6 : Hid (∀ q, q ∈ Ls ++ [⟨w4.heap.size, 2, [2, 1]⟩] → q.Ok w6 R ∧ q.g ≠ w.heap.size ∧ q.g ≠ w.heap.size + 1) := fun q hq => by
                rcases List.mem_append.1 hq with hq | hq
                · have h1 := (unhide OK4 q hq).later b5
                  have h2 := unhide HBL q hq
                  exact ⟨h1.grown gr6 (by simp [Value.ownBlock]; omega), by omega, by omega⟩
                · simp at hq; subst hq
                  exact ⟨q5.grown gr6 (by simp [Value.ownBlock]; omega), by simp only; omega, by simp only; omega⟩
              have OW6 := hide ow6
              rw [hw5] at hrun6
              simp only [World.size_alloc] at hrun6
              have HR6 := hide hrun6
              clear hrun6 ow6 gr6 q5 b5 hw5 OW5 HC4 nr
              have hgc : g6 ≠ w.heap.size := by omega
              have CL7 := hide ((own_clz (unhide OW6) (by omega) (fun q hq => (unhide OK6 q hq).1)).set (b := w.heap.size) (o := 1) (x := .slice (some ⟨g6, 0, none⟩) (Ls.length + 1) c6) (fun q hq => (unhide OK6 q hq).2.1) (by simp [Value.ownBlock]; omega))
              have PM7 := hide ((unhide PM6).set ⟨w.heap.size, 1, none⟩ (.slice (some ⟨g6, 0, none⟩) (Ls.length + 1) c6))
              have RM7 := hide ((unhide RM6).set ⟨w.heap.size, 1, none⟩ (.slice (some ⟨g6, 0, none⟩) (Ls.length + 1) c6))
              have R7 := R6.set (b := w.heap.size) (by omega) 1 (.slice (some ⟨g6, 0, none⟩) (Ls.length + 1) c6)
              have MV7 := MV6.setNew (b := w.heap.size) (Nat.le_refl _) 1 (.slice (some ⟨g6, 0, none⟩) (Ls.length + 1) c6)
              have p70 : (w6.setCell ⟨w.heap.size, 1, none⟩ (.slice (some ⟨g6, 0, none⟩) (Ls.length + 1) c6)).cell? ⟨w.heap.size, 0, none⟩ = some (.int .i64 m) := by rw [World.cell?_setCell_other _ _ _ _ (by simp)]; exact p60
              have p71 : (w6.setCell ⟨w.heap.size, 1, none⟩ (.slice (some ⟨g6, 0, none⟩) (Ls.length + 1) c6)).cell? ⟨w.heap.size, 1, none⟩ = some (.slice (some ⟨g6, 0, none⟩) (Ls.length + 1) c6) := World.cell?_setCell_same _ _ _ p61
              have c0 := ((unhide RM7).2 0 (by omega)).2
              have c1 := ((unhide RM7).2 1 (by omega)).2
              obtain ⟨d0, e0⟩ := ((unhide RM7).2 0 (by omega)).1
              obtain ⟨d1, e1⟩ := ((unhide RM7).2 1 (by omega)).1
              have nb : w.heap.size ≠ w.heap.size + 1 := by omega
              have nb' : w.heap.size + 1 ≠ w.heap.size := by omega
              have CLf := hide (((unhide CL7).set (b := w.heap.size + 1) (o := 0) (x := .int .i64 m) (fun q hq => (unhide OK6 q hq).2.2) (by simp [Value.ownBlock]; omega)).set (b := w.heap.size + 1) (o := 1) (x := (.slice (some ⟨g6, 0, none⟩) (Ls.length + 1) c6)) (fun q hq => (unhide OK6 q hq).2.2) (by simp [Value.ownBlock]; omega))
              have RDf : Rd (((w6.setCell ⟨w.heap.size, 1, none⟩ (.slice (some ⟨g6, 0, none⟩) (Ls.length + 1) c6)).setCell ⟨w.heap.size + 1, 0, none⟩ (.int .i64 m)).setCell ⟨w.heap.size + 1, 1, none⟩ (.slice (some ⟨g6, 0, none⟩) (Ls.length + 1) c6)) R (N + 10) := ((R7.set (by omega) _ _).set (by omega) _ _).mono (by omega)
              have MVf : Mov R w (((w6.setCell ⟨w.heap.size, 1, none⟩ (.slice (some ⟨g6, 0, none⟩) (Ls.length + 1) c6)).setCell ⟨w.heap.size + 1, 0, none⟩ (.int .i64 m)).setCell ⟨w.heap.size + 1, 1, none⟩ (.slice (some ⟨g6, 0, none⟩) (Ls.length + 1) c6)) := (MV7.setNew (by omega) _ _).setNew (by omega) _ _
              go_wp2_with (first | (at_builtin; refine wpList_append_run _ rfl (.tmp 54) (.tmp 56) 23 rfl _ _ _ _ rfl rfl (unhide HR6) ?_) | fail)
              exact bodyPost_ret (v := .agg #[.int .i64 m, (.slice (some ⟨g6, 0, none⟩) (Ls.length + 1) c6)]) (by simp [results, Try.results11, go_sem, e0, e1]) rfl ⟨⟨_, _, _, rfl, hm, by simp; omega, unhide CLf⟩, RDf, MVf⟩
            · have x5b : (x == 5) = false := by simp [h5]
              have c0 := ((unhide RM4).2 0 (by omega)).2
              have c1 := ((unhide RM4).2 1 (by omega)).2
              obtain ⟨d0, e0⟩ := ((unhide RM4).2 0 (by omega)).1
              obtain ⟨d1, e1⟩ := ((unhide RM4).2 1 (by omega)).1
              have nb : w.heap.size ≠ w.heap.size + 1 := by omega
              have nb' : w.heap.size + 1 ≠ w.heap.size := by omega
              have CLf := hide (((unhide HC4).set (b := w.heap.size + 1) (o := 0) (x := .int .i64 m) (fun q hq => by have := unhide HBL q hq; omega) (fun e => by have := unhide hov _ e; omega)).set (b := w.heap.size + 1) (o := 1) (x := (.slice a Ls.length cp)) (fun q hq => by have := unhide HBL q hq; omega) (fun e => by have := unhide hov _ e; omega))
              have RDf : Rd ((w4.setCell ⟨w.heap.size + 1, 0, none⟩ (.int .i64 m)).setCell ⟨w.heap.size + 1, 1, none⟩ (.slice a Ls.length cp)) R (N + 10) := ((R4.set (by omega) _ _).set (by omega) _ _).mono (by omega)
              have MVf : Mov R w ((w4.setCell ⟨w.heap.size + 1, 0, none⟩ (.int .i64 m)).setCell ⟨w.heap.size + 1, 1, none⟩ (.slice a Ls.length cp)) := (MV4.setNew (by omega) _ _).setNew (by omega) _ _
              go_wp2
              exact bodyPost_ret (v := .agg #[.int .i64 m, (.slice a Ls.length cp)]) (by simp [results, Try.results11, go_sem, e0, e1]) rfl ⟨⟨_, _, Ls, rfl, hm, by omega, unhide CLf⟩, RDf, MVf⟩
end Go.Proofs.Ytbepnfcghjfngaa
