/- What the model's draw of clauses returns: a number of marks, and clauses in a list of their own; the reader moves on, nothing else that was there turns. -/
import Derived.Test.YtbepnfcghjfngaaClzA
namespace Go.Proofs.Ytbepnfcghjfngaa
open Go.ChangeShapes Go.WideShapes Go.ChangeAt Go.RowKit Go.Joins
set_option linter.unusedVariables false

/-- Clauses that were drawn. -/
def DrewC (w' : World) (R M : Nat) (e : Ending) : Prop := ∃ (m : Int) (v : Value) (Ls : List Clz), e = .returned (.agg #[.int .i64 m, v]) ∧ W64 m ∧ Ls.length ≤ M ∧ ClzAt w' R v Ls
theorem own_from {w : World} {base n size : Nat} {e : TypeId} {v : Value} {xs : List Value} (h : w.ownsRow base e size v n xs) : ∀ k, v.ownBlock = some k → base ≤ k ∧ k < w.heap.size := by
  intro k hk
  rcases h.2 with ⟨rfl, _⟩ | ⟨g, cap, cur, rfl, hb, hg, _⟩
  · simp [Value.ownBlock] at hk
  · simp [Value.ownBlock] at hk
    subst hk
    exact ⟨hb, (Array.getElem?_eq_some_iff.1 hg).1⟩
theorem own_slice {w : World} {base n size : Nat} {e : TypeId} {v : Value} {xs : List Value} (h : w.ownsRow base e size v n xs) : ∃ a cap, v = .slice a n cap := by
  rcases h.2 with ⟨rfl, rfl⟩ | ⟨g, cap, cur, rfl, _⟩
  · exact ⟨_, _, rfl⟩
  · exact ⟨_, _, rfl⟩
/-- The clauses so far: in a list of their own behind block B0, each in a block of its own. -/
def Sofar (w : World) (R B0 : Nat) (v : Value) (n : Nat) (Ls : List Clz) : Prop := w.ownsRow B0 30 1 v n (scells Ls) ∧ ∀ q, q ∈ Ls → q.Ok w R ∧ B0 ≤ q.g ∧ v.ownBlock ≠ some q.g
theorem Sofar.grown {w w' : World} {R B0 n : Nat} {v : Value} {Ls : List Clz} {row : Option Nat} (h : Sofar w R B0 v n Ls) (hg : w.grownBy w' row) (hr : ∀ k, row = some k → k < B0) : Sofar w' R B0 v n Ls := by
  refine ⟨h.1.kept hg ?_, fun q hq => ⟨(h.2 q hq).1.grown hg ?_, (h.2 q hq).2⟩⟩
  · cases e : v.ownBlock with
    | none => exact Or.inl rfl
    | some k =>
      right
      intro e'
      have := hr k e'.symm
      have := (own_from h.1 k e).1
      omega
  · intro e
    have := hr _ e
    have := (h.2 q hq).2.1
    omega
theorem Sofar.more {w w' : World} {R B0 n g' cap' : Nat} {v : Value} {Ls : List Clz} {q : Clz} (h : Sofar w R B0 v n Ls) (hg : w.grownBy w' v.ownBlock) (ho : w'.ownsRow B0 30 1 (.slice (some ⟨g', 0, none⟩) (n + 1) cap') (n + 1) (scells (Ls ++ [q]))) (hl : v.ownBlock = some g' ∨ w.heap.size ≤ g') (hq : q.Ok w R) (hqB : B0 ≤ q.g) (hqv : v.ownBlock ≠ some q.g) :
    Sofar w' R B0 (.slice (some ⟨g', 0, none⟩) (n + 1) cap') (n + 1) (Ls ++ [q]) := by
  refine ⟨ho, fun p hp => ?_⟩
  have key : p.Ok w R ∧ B0 ≤ p.g ∧ v.ownBlock ≠ some p.g := by
    rcases List.mem_append.1 hp with hp | hp
    · exact h.2 p hp
    · simp at hp; subst hp; exact ⟨hq, hqB, hqv⟩
  refine ⟨key.1.grown hg key.2.2, key.2.1, ?_⟩
  simp only [Value.ownBlock, ne_eq, Option.some.injEq]
  intro e
  rcases hl with hl | hl
  · exact key.2.2 (by rw [hl, e])
  · have := key.1.2.1
    omega
theorem Sofar.at {w : World} {R B0 n : Nat} {v : Value} {Ls : List Clz} (h : Sofar w R B0 v n Ls) (hR : R < B0) : ClzAt w R v Ls := own_clzs h.1 hR (fun q hq => (h.2 q hq).1)
theorem Sofar.len {w : World} {R B0 n : Nat} {v : Value} {Ls : List Clz} (h : Sofar w R B0 v n Ls) : Ls.length = n := by have := h.1.1; simpa [scells] using this
theorem clz_of_own {w : World} {R base g n cap : Nat} {L : List Int} (ow : w.ownsRow base 3 1 (.slice (some ⟨g, 0, none⟩) n cap) n (icells L)) (hR : R < base) (hn : n ≤ 100) (hL : ∀ x, x ∈ L → W64 x) : (Clz.mk g cap L).Ok w R := by
  have hl := owns_len ow
  refine ⟨Nat.lt_of_lt_of_le hR (own_base ow), (own_cap ow).2, ?_, by simp only [hl]; exact hn, hL⟩
  simp only [hl]
  exact own_ints ow hl
set_option maxHeartbeats 4000000 in
theorem l4Cnf_any (R N : Nat) (w : World) (hR : Rd w R N) (hN : N ≤ 800000) :
    Calls Try.prog 10 #[.pointer (some ⟨R, 0, none⟩)] w fun e w' => (∃ (m : Nat) (v : Value) (Ls : List Clz), e = .returned (.agg #[.int .i64 m, v]) ∧ 1 ≤ m ∧ m ≤ 7 ∧ Ls.length ≤ 30 ∧ ClzAt w' R v Ls) ∧ Rd w' R (N + 1000) ∧ Mov R w w' := by
  have hlt := hR.lt
  go_enter Try.func10, Try.ntmps10
  go_wp2_with fail
  obtain ⟨w1, hw1⟩ : ∃ v, v = w.alloc (.cells #[.int .i64 0, .slice none 0 0] 25) := ⟨_, rfl⟩
  have b1 : Below w.heap.size w w1 := by rw [hw1]; exact (Below.refl _ _).alloc (Nat.le_refl _) _
  have rb1 : Box w1 w.heap.size 0 none 0 0 := by rw [hw1]; exact Box.new _ _ _ _ _ _
  have rm1 : Made w1 w.heap.size 2 := by
    rw [hw1]
    refine ⟨by simp, fun j hj => ⟨?_, by simp [go_sem]⟩⟩
    match j, hj with
    | 0, _ => exact ⟨_, by simp [go_sem]; rfl⟩
    | 1, _ => exact ⟨_, by simp [go_sem]; rfl⟩
  rw [← hw1]
  have R1 := hR.below b1
  have MV1 : Mov R w w1 := Mov.of b1
  have s1 : w.heap.size + 1 ≤ w1.heap.size := by rw [hw1]; simp
  clear hw1 b1 hR
  obtain ⟨Br, hBr⟩ : ∃ x, x = w.heap.size := ⟨_, rfl⟩
  rw [← hBr] at rm1 rb1 s1 hlt
  rw [← hBr]
  have HBr := hide hBr
  have kBr : w.heap.size ≤ Br := by omega
  clear hBr
  refine (pick_any R _ _ _ R1 (by omega) (by omega) (by omega)).mono ?_
  rintro e w2 ⟨x, rfl, x0, x1, R2, m2⟩
  have MV2 := MV1.trans m2
  have s2 := m2.size
  have rm2 := rm1.mov m2 (by omega)
  clear m2 R1 MV1 rm1 rb1
  obtain ⟨m, rfl⟩ := Int.eq_ofNat_of_zero_le x0
  obtain ⟨M, hM, M1, M7⟩ : ∃ M : Nat, 1 + (m : Int) = M ∧ 1 ≤ M ∧ M ≤ 7 := ⟨1 + m, by omega, by omega, by omega⟩
  go_wp2_with fail
  clear hM
  obtain ⟨w3, hw3⟩ : ∃ v, v = w2.alloc (.cells #[.int .i64 M, .slice none 0 0] 25) := ⟨_, rfl⟩
  have b3 : Below w2.heap.size w2 w3 := by rw [hw3]; exact (Below.refl _ _).alloc (Nat.le_refl _) _
  have p3 : Box w3 w2.heap.size M none 0 0 := by rw [hw3]; exact Box.new _ _ _ _ _ _
  have pm3 : Made w3 w2.heap.size 2 := by
    rw [hw3]
    refine ⟨by simp, fun j hj => ⟨?_, by simp [go_sem]⟩⟩
    match j, hj with
    | 0, _ => exact ⟨_, by simp [go_sem]; rfl⟩
    | 1, _ => exact ⟨_, by simp [go_sem]; rfl⟩
  have hz3 : w2.heap.size + 1 = w3.heap.size := by rw [hw3]; simp
  rw [← hw3, hz3]
  have R3 := R2.below b3
  have MV3 := MV2.from b3
  have rm3 := rm2.later b3
  clear hw3 b3 R2 MV2 rm2
  obtain ⟨Bc, hBc⟩ : ∃ x, x = w2.heap.size := ⟨_, rfl⟩
  rw [← hBc] at p3 pm3 hz3
  rw [← hBc]
  have lBc : Br < Bc := by omega
  clear hBc
  refine (num_new R _ [3, 6, 10, 16, 24, 30, 20] _ 7 w3 R3 (by omega) rfl rfl (by omega) (by omega)).mono ?_
  rintro e w4 ⟨j, hj, rfl, R4, m4⟩
  obtain ⟨C, hC, hC30⟩ : ∃ C : Nat, [3, 6, 10, 16, 24, 30, 20].getD j (0 : Int) = C ∧ C ≤ 30 := by
    match j, hj with
    | 0, _ => exact ⟨3, rfl, by omega⟩
    | 1, _ => exact ⟨6, rfl, by omega⟩
    | 2, _ => exact ⟨10, rfl, by omega⟩
    | 3, _ => exact ⟨16, rfl, by omega⟩
    | 4, _ => exact ⟨24, rfl, by omega⟩
    | 5, _ => exact ⟨30, rfl, by omega⟩
    | 6, _ => exact ⟨20, rfl, by omega⟩
  rw [hC]
  have MV4 := MV3.trans m4
  have rm4 := rm3.mov m4 (by omega)
  have pm4 := pm3.mov m4 (by omega)
  have p4 : Box w4 Bc M none 0 0 := ⟨m4.cell p3.1 (by simp only; omega), m4.cell p3.2 (by simp only; omega)⟩
  have s4 := m4.size
  clear m4 R3 MV3 rm3 pm3 p3 hC
  go_wp2_with fail
  refine (pick_any R _ _ _ R4 (by omega) (by omega) (by omega)).mono ?_
  rintro e w5 ⟨y, rfl, y0, y1, R5, m5⟩
  have MV5 := MV4.trans m5
  have rm5 := rm4.mov m5 (by omega)
  have pm5 := pm4.mov m5 (by omega)
  have p5 : Box w5 Bc M none 0 0 := ⟨m5.cell p4.1 (by simp only; omega), m5.cell p4.2 (by simp only; omega)⟩
  have s5 := m5.size
  clear m5 R4 MV4 rm4 pm4 p4
  have R5' : Rd w5 R (N + 10 + 0 * 20) := R5.mono (by omega)
  clear R5
  obtain ⟨B0, hB0⟩ : ∃ x, x = Bc + 1 := ⟨_, rfl⟩
  go_wp2
  go_loopw [6] (fun i wr => ∃ (k n : Nat) (v : Value) (Ls : List Clz), k ≤ C ∧ n ≤ k ∧ i = .int .i64 k ∧ wr.cell? ⟨Bc, 0, none⟩ = some (.int .i64 M) ∧ wr.cell? ⟨Bc, 1, none⟩ = some v ∧ Made wr Bc 2 ∧ Made wr Br 2 ∧ Sofar wr R B0 v n Ls ∧ Rd wr R (N + 10 + k * 20) ∧ Mov R w wr ∧ B0 ≤ wr.heap.size) (fun i _ => C - (intOf i).toNat)
  case atStart => exact ⟨0, 0, .slice none 0 0, [], by omega, by omega, rfl, p5.1, p5.2, pm5, rm5, ⟨own_nil _ _ _ _, by simp⟩, R5', MV5, by omega⟩
  case round =>
    clear p5 pm5 rm5 R5' MV5 s5
    obtain ⟨k, n, v, Ls, hk, hn, rfl, p0, p1, pm, rm, sf, hR, MV, hs⟩ := hrel
    have SF := hide sf
    have PM := hide pm
    have RM := hide rm
    clear sf pm rm
    by_cases hlt2 : k < C
    · go_wp2_with fail
      refine (l4Draw_any R _ M _ _ hR (by omega) (by omega) (by omega)).mono ?_
      rintro e wa ⟨⟨g, n1, cap1, L1, rfl, hn1, hL1, ow1⟩, Ra, ma⟩
      obtain rfl : L1.length = n1 := owns_len ow1
      have SFa := hide ((unhide SF).grown (grown_mov ma) (fun j h => by injection h; omega))
      have PMa := hide ((unhide PM).mov ma (by omega))
      have RMa := hide ((unhide RM).mov ma (by omega))
      have p0a := ma.cell p0 (by simp only; omega)
      have p1a := ma.cell p1 (by simp only; omega)
      have MVa := MV.trans ma
      have sa := ma.size
      have QOK := hide (clz_of_own (R := R) ow1 (by omega) (by omega) (fun x hx => by have := hL1 x hx; unfold W64; omega))
      have gb := own_base ow1
      have QV : Hid (v.ownBlock ≠ some g) := fun e => by
        have := (own_from (unhide SF).1 _ e).2
        omega
      have Ra' : Rd wa R (N + 10 + k * 20 + 14) := Ra.mono (by omega)
      clear p0 p1 PM RM SF MV ma hL1 ow1 Ra hR
      by_cases hpos : 0 < L1.length
      · have hpos' : (0 : Int) < (L1.length : Int) := by omega
        obtain ⟨g2, c2, wc, hrun, ow2, gr2, hg2⟩ := clz_one wa B0 v n Ls ⟨g, cap1, L1⟩ (unhide SFa).1 (by omega) (by omega)
        have OF := own_from (unhide SFa).1
        have SFc := hide ((unhide SFa).more gr2 ow2 hg2 (unhide QOK) (by simp only; omega) (unhide QV))
        have PMc : Hid (Made wc Bc 2) := ⟨Nat.lt_of_lt_of_le (unhide PMa).1 gr2.size, fun j hj => by
          obtain ⟨⟨u, hu⟩, hf⟩ := (unhide PMa).2 j hj
          have hne : v.ownBlock ≠ some Bc := fun e => by have := OF _ e; omega
          exact ⟨⟨u, grown_cell gr2 hu hne⟩, grown_frozen gr2 hu hne hf⟩⟩
        have RMc : Hid (Made wc Br 2) := ⟨Nat.lt_of_lt_of_le (unhide RMa).1 gr2.size, fun j hj => by
          obtain ⟨⟨u, hu⟩, hf⟩ := (unhide RMa).2 j hj
          have hne : v.ownBlock ≠ some Br := fun e => by have := OF _ e; omega
          exact ⟨⟨u, grown_cell gr2 hu hne⟩, grown_frozen gr2 hu hne hf⟩⟩
        have hneB : v.ownBlock ≠ some Bc := fun e => by have := OF _ e; omega
        have p0c := grown_cell gr2 p0a hneB
        have p1c := grown_cell gr2 p1a hneB
        have f1c := ((unhide PMc).2 1 (by omega)).2
        have Rc : Rd wc R (N + 10 + k * 20 + 20) := (Ra'.grown gr2 (fun j h => by have := OF _ h; omega)).mono (by omega)
        have MVc : Mov R w wc := MVa.grown gr2 (fun j h => by have := OF _ h; omega)
        have sc := gr2.size
        have HR := hide hrun
        clear hrun ow2 gr2 hg2 OF
        have SFd := hide ((unhide SFc).grown (grown_mov (Mov.set (R := Bc) wc 1 (.slice (some ⟨g2, 0, none⟩) (n + 1) c2))) (fun j h => by injection h; omega))
        go_wp2_with (first | (at_builtin; refine wpList_append_run _ rfl (.tmp 37) (.tmp 39) 23 rfl _ _ _ _ rfl rfl (unhide HR) ?_))
        go_roundw
        case rel => exact ⟨k + 1, n + 1, _, _, by omega, by omega, by go_num, by rw [World.cell?_setCell_other _ _ _ _ (by simp)]; exact p0c, World.cell?_setCell_same _ _ _ p1c, (unhide PMc).set _ _, (unhide RMc).set _ _, unhide SFd, (Rc.set (by omega) _ _).mono (by omega), MVc.setNew (by omega) _ _, by simp; omega⟩
        case measure => simp [intOf]; omega
      · obtain rfl : L1 = [] := List.eq_nil_of_length_eq_zero (by omega)
        clear hpos
        go_wp2_with fail
        refine (pick_any R _ _ _ Ra' (by omega) (by omega) (by omega)).mono ?_
        rintro e wb ⟨y2, rfl, y20, y21, Rb, mb⟩
        have SFb := hide ((unhide SFa).grown (grown_mov mb) (fun j h => by injection h; omega))
        have PMb := hide ((unhide PMa).mov mb (by omega))
        have RMb := hide ((unhide RMa).mov mb (by omega))
        have p0b := mb.cell p0a (by simp only; omega)
        have p1b := mb.cell p1a (by simp only; omega)
        have MVb := MVa.trans mb
        have sb := mb.size
        have QOKb := hide ((unhide QOK).mov mb)
        clear PMa RMa SFa p0a p1a MVa mb QOK Ra'
        by_cases hy2 : y2 = 0
        · subst hy2
          obtain ⟨g2, c2, wc, hrun, ow2, gr2, hg2⟩ := clz_one wb B0 v n Ls ⟨g, cap1, []⟩ (unhide SFb).1 (by omega) (by omega)
          simp only [List.length_nil] at hrun
          have OF := own_from (unhide SFb).1
          have SFc := hide ((unhide SFb).more gr2 ow2 hg2 (unhide QOKb) (by simp only; omega) (unhide QV))
          have PMc : Hid (Made wc Bc 2) := ⟨Nat.lt_of_lt_of_le (unhide PMb).1 gr2.size, fun j hj => by
            obtain ⟨⟨u, hu⟩, hf⟩ := (unhide PMb).2 j hj
            have hne : v.ownBlock ≠ some Bc := fun e => by have := OF _ e; omega
            exact ⟨⟨u, grown_cell gr2 hu hne⟩, grown_frozen gr2 hu hne hf⟩⟩
          have RMc : Hid (Made wc Br 2) := ⟨Nat.lt_of_lt_of_le (unhide RMb).1 gr2.size, fun j hj => by
            obtain ⟨⟨u, hu⟩, hf⟩ := (unhide RMb).2 j hj
            have hne : v.ownBlock ≠ some Br := fun e => by have := OF _ e; omega
            exact ⟨⟨u, grown_cell gr2 hu hne⟩, grown_frozen gr2 hu hne hf⟩⟩
          have hneB : v.ownBlock ≠ some Bc := fun e => by have := OF _ e; omega
          have p0c := grown_cell gr2 p0b hneB
          have p1c := grown_cell gr2 p1b hneB
          have f1c := ((unhide PMc).2 1 (by omega)).2
          have Rc : Rd wc R (N + 10 + k * 20 + 20) := (Rb.grown gr2 (fun j h => by have := OF _ h; omega)).mono (by omega)
          have MVc : Mov R w wc := MVb.grown gr2 (fun j h => by have := OF _ h; omega)
          have sc := gr2.size
          have HR := hide hrun
          clear hrun ow2 gr2 hg2 OF
          have SFd := hide ((unhide SFc).grown (grown_mov (Mov.set (R := Bc) wc 1 (.slice (some ⟨g2, 0, none⟩) (n + 1) c2))) (fun j h => by injection h; omega))
          go_wp2_with (first | (at_builtin; refine wpList_append_run _ rfl (.tmp 37) (.tmp 39) 23 rfl _ _ _ _ rfl rfl (unhide HR) ?_))
          go_roundw
          case rel => exact ⟨k + 1, n + 1, _, _, by omega, by omega, by go_num, by rw [World.cell?_setCell_other _ _ _ _ (by simp)]; exact p0c, World.cell?_setCell_same _ _ _ p1c, (unhide PMc).set _ _, (unhide RMc).set _ _, unhide SFd, (Rc.set (by omega) _ _).mono (by omega), MVc.setNew (by omega) _ _, by simp; omega⟩
          case measure => simp [intOf]; omega
        · have yb : (y2 == 0) = false := by simp [hy2]
          go_wp2
          go_roundw
          case rel => exact ⟨k + 1, n, v, Ls, by omega, by omega, by go_num, p0b, p1b, unhide PMb, unhide RMb, unhide SFb, Rb.mono (by omega), MVb, by omega⟩
          case measure => simp [intOf]; omega
    · have ek : k = C := by omega
      subst ek
      obtain ⟨va, vc, rfl⟩ := own_slice (unhide SF).1
      have c0 := ((unhide RM).2 0 (by omega)).2
      have c1 := ((unhide RM).2 1 (by omega)).2
      obtain ⟨d0, e0⟩ := ((unhide RM).2 0 (by omega)).1
      obtain ⟨d1, e1⟩ := ((unhide RM).2 1 (by omega)).1
      have nb : Bc ≠ Br := by omega
      have nb' : Br ≠ Bc := by omega
      have hlen := (unhide SF).len
      have SFf := hide (((unhide SF).grown (grown_mov (Mov.set (R := Br) wr 0 (.int .i64 M))) (fun j h => by injection h; omega)).grown (grown_mov (Mov.set (R := Br) (wr.setCell ⟨Br, 0, none⟩ (.int .i64 M)) 1 (.slice va n vc))) (fun j h => by injection h; omega))
      have Rf : Rd ((wr.setCell ⟨Br, 0, none⟩ (.int .i64 M)).setCell ⟨Br, 1, none⟩ (.slice va n vc)) R (N + 1000) := ((hR.set (by omega) _ _).set (by omega) _ _).mono (by omega)
      have MVf : Mov R w ((wr.setCell ⟨Br, 0, none⟩ (.int .i64 M)).setCell ⟨Br, 1, none⟩ (.slice va n vc)) := (MV.setNew kBr _ _).setNew kBr _ _
      go_wp2
      refine bodyPost_ret (v := .agg #[.int .i64 M, .slice va n vc]) (by simp [results, Try.results10, go_sem, e0, e1]) rfl ⟨⟨M, _, Ls, rfl, M1, M7, by omega, (unhide SFf).at (by omega)⟩, Rf, MVf⟩
end Go.Proofs.Ytbepnfcghjfngaa
