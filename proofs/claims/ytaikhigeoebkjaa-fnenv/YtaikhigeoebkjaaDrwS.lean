/- What the model's spoiling of names returns: some names in a list of its own; the reader moves on, nothing else that was there turns. -/
import Derived.Test.YtaikhigeoebkjaaDrwE
namespace Go.Proofs.Ytaikhigeoebkjaa
open Go.ChangeShapes Go.WideShapes Go.ChangeAt Go.RowKit Go.Joins
set_option linter.unusedVariables false
set_option linter.unusedSimpArgs false

/-- Names as a list. -/
def dl (S : Nat → ByteArray) (V : Nat → Int) : Nat → List (ByteArray × Int)
  | 0 => []
  | k + 1 => dl S V k ++ [(S k, V k)]
theorem dl_len (S : Nat → ByteArray) (V : Nat → Int) : ∀ n, (dl S V n).length = n
  | 0 => rfl
  | n + 1 => by simp [dl, dl_len S V n]
theorem dl_at (S : Nat → ByteArray) (V : Nat → Int) : ∀ n i, i < n → (dl S V n).getD i (ByteArray.empty, 0) = (S i, V i)
  | 0, i, h => by omega
  | n + 1, i, h => by
    have hl := dl_len S V n
    by_cases e : i < n
    · have := dl_at S V n i e
      simp only [dl, List.getD] at this ⊢
      rw [List.getElem?_append_left (by omega)]
      exact this
    · obtain rfl : i = n := by omega
      simp only [dl, List.getD]
      rw [List.getElem?_append_right (by omega), hl]
      simp
theorem dcells_len : ∀ (L : List (ByteArray × Int)), (dcells L).length = L.length * 2
  | [] => rfl
  | p :: L => by
    have e : dcells (p :: L) = .string p.1 :: .int .i64 p.2 :: dcells L := rfl
    rw [e]
    simp [dcells_len L]
    omega
theorem dl_cells {w : World} {b : Nat} {S : Nat → ByteArray} {V : Nat → Int} : ∀ n, Decs w b 0 n S V → ∀ j u, (dcells (dl S V n))[j]? = some u → w.cell? ⟨b, j, none⟩ = some u
  | 0, _, j, u, h => by simp [dl, dcells] at h
  | n + 1, hd, j, u, h => by
    have hl : (dcells (dl S V n)).length = n * 2 := by rw [dcells_len, dl_len]
    rw [dl, dcells_snoc] at h
    by_cases hj : j < n * 2
    · rw [List.getElem?_append_left (by omega)] at h
      exact dl_cells n (fun i hi => hd i (by omega)) j u h
    · rw [List.getElem?_append_right (by omega), hl] at h
      obtain ⟨a, c⟩ := hd n (by omega)
      rw [Nat.zero_add] at a c
      have hr : j - n * 2 < 2 := by
        have := (List.getElem?_eq_some_iff.1 h).1
        simpa using this
      have hc : j = n * 2 ∨ j = n * 2 + 1 := by omega
      rcases hc with e | e
      · subst e; simp at h; rw [← h]; exact a
      · subst e; simp at h; rw [← h]; exact c
theorem dcells_one : ∀ (L : List (ByteArray × Int)), ∀ u ∈ dcells L, u.oneCell' = true
  | [], u, h => by simp [dcells] at h
  | p :: L, u, h => by
    have e : dcells (p :: L) = .string p.1 :: .int .i64 p.2 :: dcells L := rfl
    rw [e] at h
    simp only [List.mem_cons] at h
    rcases h with rfl | rfl | h
    · rfl
    · rfl
    · exact dcells_one L u h
theorem own_frozen {w : World} {base g n cap size : Nat} {e : TypeId} {xs : List Value} (h : w.ownsRow base e size (.slice (some ⟨g, 0, none⟩) n cap) n xs) (o : Nat) : w.frozen? ⟨g, o, none⟩ = false := by
  rcases h.2 with ⟨h', _⟩ | ⟨g', cap', cur, h', _, hg', _⟩
  · cases h'
  · simp at h'
    obtain ⟨rfl, rfl⟩ := h'
    simp [World.frozen?, hg']
theorem Decs.setV {w : World} {b n k : Nat} {S : Nat → ByteArray} {V : Nat → Int} (h : Decs w b 0 n S V) (hk : k < n) (x : Int) : Decs (w.setCell ⟨b, k * 2 + 1, none⟩ (.int .i64 x)) b 0 n S (fun i => if i = k then x else V i) := by
  intro i hi
  obtain ⟨a, c⟩ := h i hi
  refine ⟨by rw [World.cell?_setCell_other _ _ _ _ (by simp <;> omega)]; exact a, ?_⟩
  by_cases e : i = k
  · subst e
    simp only [if_true, Nat.zero_add] at c ⊢
    exact World.cell?_setCell_same _ _ _ c
  · simp only [if_neg e]
    rw [World.cell?_setCell_other _ _ _ _ (by simp <;> omega)]
    exact c
theorem Decs.setS {w : World} {b n k : Nat} {S : Nat → ByteArray} {V : Nat → Int} (h : Decs w b 0 n S V) (hk : k < n) (x : ByteArray) : Decs (w.setCell ⟨b, k * 2, none⟩ (.string x)) b 0 n (fun i => if i = k then x else S i) V := by
  intro i hi
  obtain ⟨a, c⟩ := h i hi
  refine ⟨?_, by rw [World.cell?_setCell_other _ _ _ _ (by simp <;> omega)]; exact c⟩
  by_cases e : i = k
  · subst e
    simp only [if_true, Nat.zero_add] at a ⊢
    exact World.cell?_setCell_same _ _ _ a
  · simp only [if_neg e]
    rw [World.cell?_setCell_other _ _ _ _ (by simp <;> omega)]
    exact a
set_option maxHeartbeats 1000000 in
theorem of_any (R N B L : Nat) (zs : Nat → ByteArray) (w : World) (hR : Rd w R N) (hN : N ≤ 1000000) (hB : B ≠ R) (l1 : 1 ≤ L) (l2 : L ≤ 1000000)
    (hz : ∀ i, i < L → w.cell? ⟨B, i, none⟩ = some (.string (zs i))) :
    Calls Try.prog 20 #[.pointer (some ⟨R, 0, none⟩), .slice (some ⟨B, 0, none⟩) L L] w fun e w' => ∃ k : Nat, k < L ∧ e = .returned (.string (zs k)) ∧ Rd w' R (N + 1) ∧ Mov R w w' := by
  go_enter Try.func20, Try.ntmps20
  go_wp2_with fail
  refine (pick_any R N _ _ hR hN (by omega) (by omega)).mono ?_
  rintro e w1 ⟨k, rfl, k0, k1, hR1, hM1⟩
  obtain ⟨j, rfl⟩ := Int.eq_ofNat_of_zero_le k0
  have hj : j < L := by omega
  have hc : w1.cell? ⟨B, j, none⟩ = some (.string (zs j)) := hM1.cell (hz j hj) hB
  clear hz
  go_wp2
  go_ret
  exact ⟨j, hj, rfl, hR1, hM1⟩
/-- What a spoiling gives. -/
def DrewS (w w' : World) (n : Nat) (e : Ending) : Prop := ∃ (g m cap : Nat) (S : Nat → ByteArray) (V : Nat → Int), e = .returned (.slice (some ⟨g, 0, none⟩) m cap) ∧ m ≤ cap ∧ m ≤ n + 2 ∧ w.heap.size ≤ g ∧ g < w'.heap.size ∧ Decs w' g 0 m S V ∧ ∀ i, i < m → (S i).size ≤ 1000
set_option maxHeartbeats 8000000 in
theorem l2Spoil_any (R N b n cap : Nat) (S : Nat → ByteArray) (V : Nat → Int) (w : World) (hR : Rd w R N) (hN : N ≤ 900000) (hb : b ≠ R) (hbl : b < w.heap.size) (hd : Decs w b 0 n S V) (hn : n ≤ 100) (hz : ∀ i, i < n → (S i).size ≤ 1000) :
    Calls Try.prog 10 #[.pointer (some ⟨R, 0, none⟩), .slice (some ⟨b, 0, none⟩) n cap] w fun e w' => DrewS w w' n e ∧ Rd w' R (N + 3) ∧ Mov R w w' := by
  have hlt := hR.lt
  obtain ⟨i0, hi0, hzz⟩ := Option.map_eq_some_iff.1 infoDeclD
  simp only [Prod.mk.injEq] at hzz
  obtain ⟨hz0, hz1, hz2⟩ := hzz
  obtain ⟨w1, hw1⟩ : ∃ v, v = w.alloc (.cells #[] 30) := ⟨_, rfl⟩
  have b1 : Below w.heap.size w w1 := by rw [hw1]; exact (Below.refl _ _).alloc (Nat.le_refl _) _
  have z1 : w1.heap.size = w.heap.size + 1 := by rw [hw1]; simp
  have o1 : w1.ownsRow w.heap.size 30 2 (.slice (some ⟨w.heap.size, 0, none⟩) 0 0) 0 [] := by
    refine ⟨rfl, .inr ⟨w.heap.size, 0, #[], rfl, Nat.le_refl _, ?_, Nat.le_refl _, by unfold maxLen; omega, rfl, rfl⟩⟩
    rw [hw1]
    exact heap_alloc_new w _
  have d1 := hd.later b1
  obtain ⟨g, c, w2, hrun, ow, gr, hg⟩ := append_where (P := Try.prog) w1 w.heap.size 23 23 30 i0 _ 2 24 Try.underlying23 hi0 hz0 hz1 hz2 rfl (by omega) w.heap.size 0 0 [] o1 ⟨b, 0, none⟩ n cap (dcells (dl S V n)) (by rw [dcells_len, dl_len]) (by
    intro j u hj
    rw [Go.WideShapes.add_plain, Nat.zero_add]
    exact dl_cells n d1 j u hj) (dcells_one _) (by unfold maxLen; omega) (by omega) (by omega)
  simp only [Nat.zero_add, List.nil_append] at hrun ow
  have m2 := mov_of_grown gr
  have s2 := gr.size
  have D : Decs w2 g 0 n S V := by
    have := own_decs ow (dl_len S V n).symm
    intro i hi
    have e := dl_at S V n i hi
    have t := this i hi
    simp only [e] at t
    exact t
  replace hR : Rd w2 R N := (hR.below b1).other m2 (by omega)
  have MV : Mov R w w2 := (Mov.of b1).grown gr (fun j h => by
    have e : w.heap.size = j := by simpa using h
    omega)
  have hg1 : w.heap.size ≤ g := by omega
  have oc := own_cap ow
  have o2 := oc.1
  have o3 := oc.2
  have OW := hide ow
  have HD := hide D
  have HZ := hide hz
  have HI := hide hi0
  have HZZ : Hid (i0.zero = some (.agg #[.string ByteArray.empty, .int .i64 0]) ∧ i0.size = 2 ∧ i0.bytes = 24) := ⟨hz0, hz1, hz2⟩
  rw [hw1] at hrun
  have HR := hide hrun
  have hgR : g ≠ R := by omega
  have hRg : R < g := by omega
  clear hrun ow gr m2 d1 o1 hw1 b1 z1 hd D hg oc hz hi0 hz0 hz1 hz2 s2 w1
  go_enter Try.func10, Try.ntmps10
  by_cases hn0 : n = 0
  · subst hn0
    go_wp2_with (first | (at_builtin; refine wpList_append_run _ rfl (.tmp 7) (.tmp 8) 23 rfl _ _ _ _ rfl rfl (unhide HR) ?_))
    go_ret
    exact ⟨⟨g, 0, c, S, V, rfl, o2, by omega, hg1, o3, unhide HD, fun i hi => by omega⟩, hR.mono (by omega), MV⟩
  · have dn : ((n : Int) == 0) = false := by simp; omega
    go_wp2_with (first | (at_builtin; refine wpList_append_run _ rfl (.tmp 7) (.tmp 8) 23 rfl _ _ _ _ rfl rfl (unhide HR) ?_))
    refine (pick_any R _ _ _ hR (by omega) (by omega) (by omega)).mono ?_
    rintro e w3 ⟨kk, rfl, kk0, kk1, hR3, hm⟩
    replace HD := hide ((unhide HD).mov hm hgR)
    replace MV := MV.trans hm
    replace OW := hide (World.ownsRow.kept (unhide OW) (grown_mov hm) (Or.inr (by simp [Value.ownBlock]; omega)))
    replace o3 := Nat.lt_of_lt_of_le o3 hm.size
    obtain ⟨k, rfl⟩ := Int.eq_ofNat_of_zero_le kk0
    have hk : k < n := by omega
    clear hm hR HR
    go_wp2_with fail
    refine (pick_any R _ _ _ hR3 (by omega) (by omega) (by omega)).mono ?_
    rintro e w4 ⟨p, rfl, p0, p1, hR4, hm⟩
    replace HD := hide ((unhide HD).mov hm hgR)
    replace MV := MV.trans hm
    replace OW := hide (World.ownsRow.kept (unhide OW) (grown_mov hm) (Or.inr (by simp [Value.ownBlock]; omega)))
    replace o3 := Nat.lt_of_lt_of_le o3 hm.size
    have hRl := hR4.lt
    clear hm hR3
    by_cases e0 : p = 0
    · subst e0
      go_wp2_with fail
      obtain ⟨w5, hw5⟩ : ∃ v, v = w4.alloc (.cells #[.int .i64 0, .int .i64 5, .int .i64 (-1), .int .i64 4] 3) := ⟨_, rfl⟩
      have b5 : Below w4.heap.size w4 w5 := by rw [hw5]; exact (Below.refl _ _).alloc (Nat.le_refl _) _
      have hnums : ∀ i, i < 4 → w5.cell? ⟨w4.heap.size, i, none⟩ = some (.int .i64 (([0, 5, -1, 4] : List Int).getD i 0)) := by
        intro i hi
        rw [hw5]
        have : i = 0 ∨ i = 1 ∨ i = 2 ∨ i = 3 := by omega
        rcases this with rfl | rfl | rfl | rfl <;> simp [go_sem]
      rw [← hw5]
      refine (num_any R _ w4.heap.size 4 [0, 5, -1, 4] _ rfl (hR4.below b5) (by omega) (by omega) (by omega) (by omega) hnums).mono ?_
      rintro e w6 ⟨jn, hjn, rfl, hR6, hm⟩
      have D6 := ((unhide HD).later b5).mov hm hgR
      have ow6 := World.ownsRow.kept (World.ownsRow.kept (unhide OW) (⟨b5.os, b5.tape, b5.output, b5.size, fun k hk _ => b5.block k hk⟩ : w4.grownBy w5 none) (Or.inr (by simp [Value.ownBlock]))) (grown_mov hm) (Or.inr (by simp [Value.ownBlock]; omega))
      have M6 := (MV.from b5).trans hm
      have f0 := own_frozen ow6 (k * 2 + 1)
      have gl6 := (own_cap ow6).2
      generalize ([0, 5, -1, 4] : List Int).getD jn 0 = x
      have c1 := (D6 k hk).2
      rw [Nat.zero_add] at c1
      have DS := hide (D6.setV hk x)
      have R7 := hide ((hR6.set hRg (k * 2 + 1) (.int .i64 x)).mono (show N + 1 + 1 + 1 ≤ N + 3 by omega))
      have M7 := hide (M6.setNew hg1 (k * 2 + 1) (.int .i64 x))
      clear hnums hw5 b5 hm hR6 hR4 M6 MV ow6 OW D6 HD
      go_wp2
      go_ret
      exact ⟨⟨g, n, c, _, _, rfl, o2, by omega, hg1, by simpa using gl6, unhide DS, unhide HZ⟩, unhide R7, unhide M7⟩
    · have d0 : (p == 0) = false := by simp [e0]
      by_cases e1 : p = 1
      · subst e1
        go_wp2_with fail
        obtain ⟨w5, hw5⟩ : ∃ v, v = w4.alloc (.cells #[.string ⟨#[]⟩, .string ⟨#[116, 114, 117, 101]⟩, .string ⟨#[97, 98, 99, 100, 101]⟩, .string ⟨#[65]⟩, .string ⟨#[110, 111, 116]⟩, .string ⟨#[120]⟩] 9) := ⟨_, rfl⟩
        have b5 : Below w4.heap.size w4 w5 := by rw [hw5]; exact (Below.refl _ _).alloc (Nat.le_refl _) _
        obtain ⟨zs, hzs⟩ : ∃ zs : Nat → ByteArray, ∀ i, i < 6 → (zs i).size ≤ 1000 ∧ w5.cell? ⟨w4.heap.size, i, none⟩ = some (.string (zs i)) := by
          refine ⟨fun i => if i = 0 then ⟨#[]⟩ else if i = 1 then ⟨#[116, 114, 117, 101]⟩ else if i = 2 then ⟨#[97, 98, 99, 100, 101]⟩ else if i = 3 then ⟨#[65]⟩ else if i = 4 then ⟨#[110, 111, 116]⟩ else ⟨#[120]⟩, fun i hi => ?_⟩
          rw [hw5]
          have : i = 0 ∨ i = 1 ∨ i = 2 ∨ i = 3 ∨ i = 4 ∨ i = 5 := by omega
          rcases this with rfl | rfl | rfl | rfl | rfl | rfl
          all_goals exact ⟨by decide, by simp [go_sem]⟩
        rw [← hw5]
        refine (of_any R _ w4.heap.size 6 zs _ (hR4.below b5) (by omega) (by omega) (by omega) (by omega) (fun i hi => (hzs i hi).2)).mono ?_
        rintro e w6 ⟨jn, hjn, rfl, hR6, hm⟩
        have zsz := (hzs jn hjn).1
        have D6 := ((unhide HD).later b5).mov hm hgR
        have ow6 := World.ownsRow.kept (World.ownsRow.kept (unhide OW) (⟨b5.os, b5.tape, b5.output, b5.size, fun k hk _ => b5.block k hk⟩ : w4.grownBy w5 none) (Or.inr (by simp [Value.ownBlock]))) (grown_mov hm) (Or.inr (by simp [Value.ownBlock]; omega))
        have M6 := (MV.from b5).trans hm
        have f0 := own_frozen ow6 (k * 2)
        have gl6 := (own_cap ow6).2
        have c1 := (D6 k hk).1
        rw [Nat.zero_add] at c1
        have DS := hide (D6.setS hk (zs jn))
        have R7 := hide ((hR6.set hRg (k * 2) (.string (zs jn))).mono (show N + 1 + 1 + 1 ≤ N + 3 by omega))
        have M7 := hide (M6.setNew hg1 (k * 2) (.string (zs jn)))
        have HZ' : Hid (∀ i, i < n → ((fun i => if i = k then zs jn else S i) i).size ≤ 1000) := fun i hi => by
          by_cases e : i = k
          · simp only [e, if_true]; exact zsz
          · simp only [if_neg e]; exact unhide HZ i hi
        clear hzs hw5 b5 hm hR6 hR4 M6 MV ow6 OW D6 HD zsz
        generalize zs jn = zq at *
        go_wp2
        go_ret
        exact ⟨⟨g, n, c, _, _, rfl, o2, by omega, hg1, by simpa using gl6, unhide DS, unhide HZ'⟩, unhide R7, unhide M7⟩
      · have d1 : (p == 1) = false := by simp [e1]
        by_cases e2 : p = 2
        · subst e2
          obtain ⟨w5, hw5⟩ : ∃ v, v = w4.alloc (.cells #[.string ⟨#[113]⟩, .int .i64 4, .string ⟨#[112]⟩, .int .i64 1] 30) := ⟨_, rfl⟩
          have b5 : Below w4.heap.size w4 w5 := by rw [hw5]; exact (Below.refl _ _).alloc (Nat.le_refl _) _
          have t0 : w5.cell? ⟨w4.heap.size, 0, none⟩ = some (.string ⟨#[113]⟩) := by rw [hw5]; simp [go_sem]
          have t1 : w5.cell? ⟨w4.heap.size, 1, none⟩ = some (.int .i64 4) := by rw [hw5]; simp [go_sem]
          have t2 : w5.cell? ⟨w4.heap.size, 2, none⟩ = some (.string ⟨#[112]⟩) := by rw [hw5]; simp [go_sem]
          have t3 : w5.cell? ⟨w4.heap.size, 3, none⟩ = some (.int .i64 1) := by rw [hw5]; simp [go_sem]
          have s5 := b5.size
          have s4 := MV.size
          obtain ⟨hz0, hz1, hz2⟩ := unhide HZZ
          obtain ⟨gq, cq, w6, hrun, ow6, gr6, hgq⟩ := append_where (P := Try.prog) w5 w.heap.size 23 23 30 i0 _ 2 24 Try.underlying23 (unhide HI) hz0 hz1 hz2 rfl (by omega) g n c (dcells (dl S V n)) (World.ownsRow.kept (unhide OW) (⟨b5.os, b5.tape, b5.output, b5.size, fun k hk _ => b5.block k hk⟩ : w4.grownBy w5 none) (Or.inr (by simp [Value.ownBlock]))) ⟨w4.heap.size, 0, none⟩ 2 2 [.string ⟨#[113]⟩, .int .i64 4, .string ⟨#[112]⟩, .int .i64 1] rfl (by
            intro j u hj
            rw [Go.WideShapes.add_plain, Nat.zero_add]
            match j, hj with
            | 0, hj => simp at hj; rw [← hj]; exact t0
            | 1, hj => simp at hj; rw [← hj]; exact t1
            | 2, hj => simp at hj; rw [← hj]; exact t2
            | 3, hj => simp at hj; rw [← hj]; exact t3
            | j + 4, hj => simp at hj) (by intro u hu; simp at hu; rcases hu with rfl | rfl | rfl | rfl <;> rfl) (by unfold maxLen; omega) (by omega) (by omega)
          have ex : dcells (dl S V n) ++ [.string ⟨#[113]⟩, .int .i64 4, .string ⟨#[112]⟩, .int .i64 1] = dcells (dl S V n ++ [((⟨#[113]⟩ : ByteArray), (4 : Int)), ((⟨#[112]⟩ : ByteArray), (1 : Int))]) := by simp [dcells]
          rw [ex] at ow6
          have D6 := own_decs ow6 (by simp [dl_len])
          have HZ6 : Hid (∀ i, i < n + 2 → ((dl S V n ++ [((⟨#[113]⟩ : ByteArray), (4 : Int)), ((⟨#[112]⟩ : ByteArray), (1 : Int))]).getD i (ByteArray.empty, 0)).1.size ≤ 1000) := fun i hi => by
            have hl := dl_len S V n
            by_cases e : i < n
            · have := dl_at S V n i e
              simp only [List.getD] at this ⊢
              rw [List.getElem?_append_left (by omega), this]
              exact unhide HZ i e
            · have hc : i = n ∨ i = n + 1 := by omega
              simp only [List.getD]
              rw [List.getElem?_append_right (by omega), hl]
              rcases hc with e | e
              · subst e; simp; decide
              · subst e; simp; decide
          have m6 := mov_of_grown gr6
          have R6 : Rd w6 R (N + 3) := ((hR4.below b5).other m6 (by omega)).mono (by omega)
          have M6 : Mov R w w6 := (MV.from b5).grown gr6 (fun j h => by
            have e : g = j := by simpa using h
            omega)
          have oc6 := own_cap ow6
          have oa := oc6.1
          have ob := oc6.2
          have DD := hide D6
          rw [hw5] at hrun
          have HR2 := hide hrun
          clear hrun ow6 gr6 m6 t0 t1 t2 t3 ex hz0 hz1 hz2 hw5 b5 D6 oc6 OW HD MV hR4
          go_wp2_with (first | (at_builtin; refine wpList_append_run _ rfl (.tmp 40) (.tmp 43) 23 rfl _ _ _ _ rfl rfl (unhide HR2) ?_))
          go_ret
          exact ⟨⟨gq, n + 2, cq, _, _, rfl, oa, Nat.le_refl _, by omega, ob, unhide DD, unhide HZ6⟩, R6, M6⟩
        · have d2 : (p == 2) = false := by simp [e2]
          by_cases e3 : p = 3
          · subst e3
            have R7 := hide ((hR4.alloc (.cells #[] 30)).mono (show N + 1 + 1 ≤ N + 3 by omega))
            have M7 := hide (MV.alloc (.cells #[] 30))
            have s4 := MV.size
            go_wp2
            go_ret
            exact ⟨⟨w4.heap.size, 0, 0, S, V, rfl, Nat.le_refl _, by omega, s4, by simp, fun i hi => by omega, fun i hi => by omega⟩, unhide R7, unhide M7⟩
          · have d3 : (p == 3) = false := by simp [e3]
            go_wp2
            go_ret
            exact ⟨⟨g, n, c, S, V, rfl, o2, by omega, hg1, o3, unhide HD, unhide HZ⟩, hR4.mono (by omega), MV⟩
end Go.Proofs.Ytaikhigeoebkjaa
