/- Which marks are so, of the model and of the program. -/
import Derived.Test.YtmpiiilkaadhfaaDoorNvB
import Derived.Test.YtmpiiilkaadhfaaDoorNokC
import Derived.Test.YtmpiiilkaadhfaaDoorRngA
import Derived.Test.YtmpiiilkaadhfaaDoorNvM
namespace Go.Proofs.YtmpiiilkaadhfaaDoor
open Go.ChangeShapes Go.WideShapes Go.ChangeAt Go.RowKit Go.Joins
set_option linter.unusedVariables false
set_option maxRecDepth 100000

/-- A set has just the marks that a list says. -/
def SoP (X : Nat → Nat) (L : List Bool) : Prop := ∀ k, inW X k = (decide (1 ≤ k) && atB L (k - 1))
theorem atB_out {L : List Bool} {i : Nat} (h : L.length ≤ i) : atB L i = false := by simp [atB, List.getD, h]
theorem atB_snoc (L : List Bool) (v : Bool) (i : Nat) : atB (L ++ [v]) i = (atB L i || (v && decide (i = L.length))) := by
  unfold atB
  simp only [List.getD_eq_getElem?_getD]
  by_cases h : i < L.length
  · rw [List.getElem?_append_left h]
    have : decide (i = L.length) = false := by simp; omega
    rw [this]; simp
  · by_cases e : i = L.length
    · subst e; simp
    · rw [List.getElem?_eq_none (by simp; omega), List.getElem?_eq_none (by omega)]
      simp [e]
theorem SoP.next {X : Nat → Nat} {L : List Bool} (h : SoP X L) (v : Bool) : SoP (setW X (L.length + 1) v) (L ++ [v]) := by
  intro k
  rw [inW_setW, h k, atB_snoc]
  by_cases h0 : 1 ≤ k
  · have e : decide (k = L.length + 1) = decide (k - 1 = L.length) := by rw [Bool.eq_iff_iff]; simp; omega
    rw [e]
    simp [h0]
  · have e : k = 0 := by omega
    subst e
    simp
theorem SoP.one : SoP (addW (fun _ => 0) 1) [true] := by
  intro k
  rw [inW_addW, inW_zero]
  by_cases e : k = 1
  · subst e; simp [atB]
  · by_cases h : k = 0
    · subst h; simp
    · have : atB [true] (k - 1) = false := atB_out (by simp; omega)
      rw [this]; simp [e]
theorem SoP.sgn {X : Nat → Nat} {L : List Bool} (h : SoP X L) {p : Int} (h1 : 1 ≤ absI p) (h2 : absI p ≤ L.length) (h3 : L.length ≤ 1048576) : sgnW X p = metB p L.length (atB L) := by
  unfold sgnW
  rcases met_ways L.length p with ⟨j, hj, rfl⟩ | ⟨j, hj, rfl⟩ | ho
  · rw [met_pos hj, bareI_pos (by omega), h]
    have e1 : ((j : Int) + 1).toNat = j + 1 := by omega
    have e2 : decide (((j : Int) + 1) < 0) = false := by simp; omega
    rw [e1, e2]; simp
  · rw [met_neg hj, bareI_neg (by omega) (by omega), h]
    have e1 : (-(-((j : Int) + 1))).toNat = j + 1 := by omega
    have e2 : decide (-((j : Int) + 1) < 0) = true := by simp <;> omega
    rw [e1, e2]; simp
  · unfold absI at h1 h2
    split at h1 <;> split at h2 <;> omega
theorem SoP.gate {X : Nat → Nat} {L : List Bool} (h : SoP X L) {g : Gt} (hg : GmP (L.length + 1) g) (h3 : L.length ≤ 1048576) : gsay X g.x g.a g.b = gval g L := by
  unfold gsay gval
  obtain ⟨h1, h2, h4, _⟩ := hg
  rw [h.sgn (p := g.a) (by omega) (by omega) h3, h.sgn (p := g.b) (by omega) (by omega) h3]
theorem nvL_no {m : Int} {n : Nat} {G : Nat → Gt} {I : List Bool} (h : ¬ (netB m n G = true ∧ (I.length : Int) = m)) : nvL m n G I = [] := if_neg h
theorem nvL_yes {m : Int} {n : Nat} {G : Nat → Gt} {I : List Bool} (h : netB m n G = true) (h' : (I.length : Int) = m) : nvL m n G I = outL I G n := if_pos ⟨h, h'⟩
theorem nvL_le {m : Int} {n : Nat} {G : Nat → Gt} {I : List Bool} : (nvL m n G I).length ≤ 609 := by
  by_cases h : netB m n G = true ∧ (I.length : Int) = m
  · rw [nvL_yes h.1 h.2, outL_len]
    obtain ⟨h1, h2, h3, _⟩ := netB_iff.1 h.1
    have := h.2
    omega
  · rw [nvL_no h]; simp
/-- What NetVals hands back. -/
def VPost (L : List Bool) (base : Nat) (e : Ending) (w' : World) : Prop := ∃ a cap, e = .returned (.slice a L.length cap) ∧ BlsAt w' a L.length (atB L) ∧ OwnB w' base a L.length
set_option maxRecDepth 100000 in
set_option maxHeartbeats 8000000 in
theorem iNetVals_any (m : Int) (a : Option Addr) (n cap : Nat) (G : Nat → Gt) (I : List Bool) (b off l c : Nat) (w : World) (hd : GtsAt w a n G) (hw : WG n G) (hn : n ≤ 1048576) (hl : l ≤ 1048576) (hI : I.length = l) (hb : b < w.heap.size) (hi : Bls w b off l (atB I)) :
    Calls Tryd.prog 10 #[.agg #[.int .i64 m, .slice a n cap], .slice (some ⟨b, off, none⟩) l c] w fun e w' => VPost (nvL m n G I) w.heap.size e w' ∧ Below w.heap.size w w' := by
  have HD := hide hd
  have HW := hide hw
  have HI := hide hi
  clear hd hw hi
  obtain ⟨wz, hwz⟩ : ∃ wz, wz = w.alloc (.cells #[.int .i64 m, .slice a n cap] 25) := ⟨_, rfl⟩
  have BZ : Below w.heap.size w wz := by rw [hwz]; exact (Below.refl _ _).alloc (Nat.le_refl _) _
  have NB : NBox wz w.heap.size m a n cap := by rw [hwz]; exact NBox.new _ _ _ _ _ _
  have HZ := hide hwz
  clear hwz
  go_enter Tryd.func10, Tryd.ntmps10
  go_wp2_with fail
  rw [← unhide HZ]
  refine (iNetOk_any _ _ _ _ _ _ ((unhide HD).later BZ) (unhide HW) hn).mono ?_
  rintro e w1 ⟨rfl, b1⟩
  have NB1 := NB.later b1
  obtain ⟨p0, p1⟩ := NB.later b1
  have B1 := BZ.trans (b1.mono BZ.size)
  clear b1 NB
  cases hP : netB m n G
  · have HN := hide (nvL_no (I := I) (fun h => by rw [hP] at h; exact absurd h.1 (by simp)) : nvL m n G I = [])
    go_wp2
    go_ret
    rw [unhide HN]
    exact ⟨⟨_, _, rfl, Or.inl rfl, Or.inl rfl⟩, B1⟩
  · by_cases hm : (l : Int) = m
    · subst hm
      obtain ⟨hm0, hm1, hn6, hgs⟩ := netB_iff.1 hP
      have HG := hide hgs
      have HN := hide (nvL_yes hP (by rw [hI]) : nvL (l : Int) n G I = outL I G n)
      have kb : ((l : Int) != (l : Int)) = false := by simp
      have HNB := hide NB1
      have wl : w.heap.size < w1.heap.size := World.block_lt_of_cell? _ _ p0
      clear hgs hP NB1
      go_wp2_with fail
      refine (add_any _ _ (fun _ => 0) 1 _ (WSet.new w1 _) (by unfold W64; omega) (by decide) (by decide)).mono ?_
      rintro e w2 ⟨rfl, hx2, hz2, mv2⟩
      have e1 : (bareI 1).toNat = 1 := by decide
      rw [e1] at hx2
      have HX2 := hide hx2
      have hz2' : w2.heap.size = w1.heap.size + 1 := by rw [hz2]; simp
      have HM2 : Hid (Mov w1.heap.size w1 w2) := (Mov.of ((Below.refl _ _).alloc (Nat.le_refl _) _)).trans mv2
      have BL2 : Below w.heap.size w w2 := B1.trans ((unhide HM2).below B1.size B1.size)
      have HNB2 : Hid (NBox w2 w.heap.size l a n cap) := ⟨(unhide HM2).cell p0 (by simp only; omega), (unhide HM2).cell p1 (by simp only; omega)⟩
      clear hx2 mv2 e1 p0 p1 hz2
      go_wp2
      go_loopw [26] (fun i wr => ∃ (j : Nat) (X : Nat → Nat), j ≤ l ∧ i = .int .i64 j ∧ SoP X (true :: I.take j) ∧ WSet wr w1.heap.size 0 11 X ∧ NBox wr w.heap.size l a n cap ∧ w2.heap.size ≤ wr.heap.size ∧ Below w.heap.size w wr) (fun i _ => l - (intOf i).toNat)
      case atStart => exact ⟨0, _, by omega, rfl, by simpa using SoP.one, unhide HX2, unhide HNB2, Nat.le_refl _, BL2⟩
      case round =>
        obtain ⟨j, X, hj, rfl, hso, hws, hnb, hsz, hbel⟩ := hrel
        have HS := hide hso
        have HX := hide hws
        have HB := hide hnb
        clear hso hws hnb
        by_cases hlt : j < l
        · have d0 := (hbel.cell (p := ⟨b, off + j, none⟩) hb).trans (unhide HI j hlt)
          have hlen : (true :: I.take j).length + 1 = 2 + j := by simp [hI]; omega
          have hnx : true :: I.take (j + 1) = (true :: I.take j) ++ [atB I j] := by
            have hj' : j < I.length := by omega
            rw [List.take_add_one]
            simp [atB, List.getD, hj']
          have HS1 : Hid (SoP (setW X (2 + j) (atB I j)) (true :: I.take (j + 1))) := by
            rw [hnx, ← hlen]; exact (unhide HS).next _
          clear hnx hlen
          cases hv : atB I j
          · rw [hv] at d0
            have HS2 : Hid (SoP X (true :: I.take (j + 1))) := by have h := unhide HS1; rw [hv] at h; exact h
            clear hv
            go_wp2
            go_roundw
            case rel => exact ⟨j + 1, X, by omega, by go_num, unhide HS2, unhide HX, unhide HB, hsz, hbel⟩
            case measure => simp [intOf]; omega
          · rw [hv] at d0
            have HS2 : Hid (SoP (addW X (2 + j)) (true :: I.take (j + 1))) := by have h := unhide HS1; rw [hv] at h; exact h
            clear hv
            have hba : bareI (2 + (j : Int)) = 2 + (j : Int) := bareI_pos (by omega)
            have hbn : (2 + (j : Int)).toNat = 2 + j := by omega
            go_wp2_with fail
            refine (add_any _ _ X _ _ (unhide HX) (by unfold W64; omega) (by rw [hba]; omega) (by rw [hba]; omega)).mono ?_
            rintro e w3 ⟨rfl, hx3, hz3, mv3⟩
            rw [hba, hbn] at hx3
            have HX3 := hide hx3
            have B3 : Below w.heap.size w w3 := hbel.trans (mv3.below (by omega) hbel.size)
            have HB3 : Hid (NBox w3 w.heap.size l a n cap) := ⟨mv3.cell (unhide HB).1 (by simp only; omega), mv3.cell (unhide HB).2 (by simp only; omega)⟩
            clear hx3 mv3
            go_wp2
            go_roundw
            case rel => exact ⟨j + 1, _, by omega, by go_num, unhide HS2, unhide HX3, unhide HB3, by omega, B3⟩
            case measure => simp [intOf]; omega
        · have ej : j = l := by omega
          subst ej
          have HS0 : Hid (SoP X (outL I G 0)) := by have h := unhide HS; rw [List.take_of_length_le (by omega)] at h; exact h
          obtain ⟨p0, p1⟩ := id (unhide HB)
          go_wp2
          go_loopw [39] (fun i wr => ∃ (k : Nat) (X : Nat → Nat), k ≤ n ∧ i = .int .i64 k ∧ SoP X (outL I G k) ∧ WSet wr w1.heap.size 0 11 X ∧ NBox wr w.heap.size j a n cap ∧ w2.heap.size ≤ wr.heap.size ∧ Below w.heap.size w wr) (fun i _ => n - (intOf i).toNat)
          case atStart => exact ⟨0, X, by omega, rfl, unhide HS0, unhide HX, unhide HB, hsz, hbel⟩
          case round =>
            obtain ⟨k, X, hk, rfl, hso, hws, hnb, hsz, hbel⟩ := hrel
            have HS := hide hso
            clear hso
            obtain ⟨p0, p1⟩ := id hnb
            by_cases hlt : k < n
            · obtain ⟨b', off', rfl, hb', hd⟩ := (unhide HD).ok hlt
              obtain ⟨c0, c1, c2⟩ := hd k hlt
              have d0 := (hbel.cell (p := ⟨b', off' + k * 3, none⟩) hb').trans c0
              have d1 := (hbel.cell (p := ⟨b', off' + k * 3 + 1, none⟩) hb').trans c1
              have d2 := (hbel.cell (p := ⟨b', off' + k * 3 + 2, none⟩) hb').trans c2
              clear c0 c1 c2 hd
              obtain ⟨wa, wb⟩ := unhide HW k hlt
              have hg := (unhide HG k hlt).1
              have hlen : (outL I G k).length = 1 + j + k := by rw [outL_len, hI]
              have hgm : GmP ((outL I G k).length + 1) (G k) := by
                have e : (((outL I G k).length : Int) + 1) = 2 + (j : Int) + (k : Int) := by rw [hlen]; omega
                rw [e]; exact hg
              have hgs : gsay X (G k).x (G k).a (G k).b = gval (G k) (outL I G k) := (unhide HS).gate hgm (by rw [hlen]; omega)
              have HS1 : Hid (SoP (setW X (2 + j + k) (gsay X (G k).x (G k).a (G k).b)) (outL I G (k + 1))) := by
                rw [hgs]
                have h := (unhide HS).next (gval (G k) (outL I G k))
                rw [hlen] at h
                have e : 1 + j + k + 1 = 2 + j + k := by omega
                rw [e] at h
                exact h
              have ha := absI_bd (G k).a (2 + j + k) (by have := hg.bd; omega) (by have := hg.bd; omega)
              have hbb := absI_bd (G k).b (2 + j + k) (by have := hg.bd; omega) (by have := hg.bd; omega)
              have ea : bareI (G k).a = absI (G k).a := bare_abs (N := 2 + j + k) (by have := hg.bd; omega) (by have := hg.bd; omega) (by omega)
              have eb : bareI (G k).b = absI (G k).b := bare_abs (N := 2 + j + k) (by have := hg.bd; omega) (by have := hg.bd; omega) (by omega)
              rw [← ea] at ha
              rw [← eb] at hbb
              have a1 : bareI (G k).a ≤ 700 := by omega
              have b1 : bareI (G k).b ≤ 700 := by omega
              have a0 := ha.1
              have b0 := hbb.1
              clear hgs ea eb ha hbb hg hlen hgm
              have wr1 : w.heap.size < wr.heap.size := by omega
              have wr2 : w1.heap.size < wr.heap.size := by omega
              have WS := hws
              have BL := hbel
              have sz := hsz
              clear hws
              go_wp2
              obtain ⟨wy, hwy⟩ : ∃ wy, wy = wr.alloc (.cells #[.bool (G k).x, .int .i64 (G k).a, .int .i64 (G k).b] 76) := ⟨_, rfl⟩
              have bY : Below wr.heap.size wr wy := by rw [hwy]; exact (Below.refl _ _).alloc (Nat.le_refl _) _
              have q0 : wy.cell? ⟨wr.heap.size, 0, none⟩ = some (.bool (G k).x) := by rw [hwy]; simp [go_sem]
              have q1 : wy.cell? ⟨wr.heap.size, 1, none⟩ = some (.int .i64 (G k).a) := by rw [hwy]; simp [go_sem]
              have q2 : wy.cell? ⟨wr.heap.size, 2, none⟩ = some (.int .i64 (G k).b) := by rw [hwy]; simp [go_sem]
              rw [← hwy]
              clear hwy
              replace p0 := cell_later bY p0
              replace p1 := cell_later bY p1
              replace WS := WS.later bY
              replace BL := BL.trans (bY.mono BL.size)
              replace sz := Nat.le_trans sz bY.size
              clear bY d0 d1 d2
              have hwr : IntKind.i64.wrap (2 + (j : Int) + (k : Int)) = ((2 + j + k : Nat) : Int) := by rw [IntKind.wrap_i64]; omega
              go_region_held3 (fun w' => w'.cell? ⟨w.heap.size, 0, none⟩ = some (.int .i64 (j : Int)) ∧ w'.cell? ⟨w.heap.size, 1, none⟩ = some (.slice (some ⟨b', off', none⟩) n cap) ∧ w'.cell? ⟨wr.heap.size, 0, none⟩ = some (.bool (G k).x) ∧ w'.cell? ⟨wr.heap.size, 1, none⟩ = some (.int .i64 (G k).a) ∧ w'.cell? ⟨wr.heap.size, 2, none⟩ = some (.int .i64 (G k).b)) (first | go_keep | exact ⟨p0, p1, q0, q1, q2⟩)
                (first | (go_at_call 44; refine (firstGate_any _ _ _ _ _ hm0 hm1).mono ?_; rintro e wq ⟨rfl, bq⟩; have BL := (by first | exact BL.trans (bq.mono BL.size) | exact BL.drew.trans (bq.mono BL.size)); have sz := Nat.le_trans (by exact sz) bq.size; have WS := WSet.later (by first | exact WS | exact WS.drewN 1 | exact WS.drewN 2) bq; have p0 := cell_later bq (by exact p0); have p1 := cell_later bq (by exact p1); have q0 := cell_later bq (by exact q0); have q1 := cell_later bq (by exact q1); have q2 := cell_later bq (by exact q2)) | (go_at_call 43; (try rw [hwr]); refine (reckon_any w1.heap.size 0 X (2 + j + k) _ _ _ _ (by first | exact WS | exact WS.drewN 1 | exact WS.drewN 2) (by omega) wa wb a0 a1 b0 b1).mono ?_; rintro e wp ⟨rfl, WT, mp⟩; have BL := (by first | exact BL.trans (mp.below (by omega) BL.size) | exact BL.drew.trans (mp.below (by omega) BL.size)); have sz := Nat.le_trans (by exact sz) mp.size; have p0 := mp.cell (by exact p0) (by simp only; omega); have p1 := mp.cell (by exact p1) (by simp only; omega); have q0 := mp.cell (by exact q0) (by simp only; omega); have q1 := mp.cell (by exact q1) (by simp only; omega); have q2 := mp.cell (by exact q2) (by simp only; omega)))
              all_goals go_wp2
              all_goals go_roundw
              all_goals first | exact ⟨k + 1, _, by omega, by go_num, unhide HS1, (by first | exact WT | exact WT.drewN 1), ⟨p0, p1⟩, sz, (by first | exact BL | exact BL.drew)⟩ | (simp [intOf]; omega)
            · have ek : k = n := by omega
              subst ek
              have hlen : (outL I G k).length = 1 + j + k := by rw [outL_len, hI]
              have hN := unhide HN
              obtain ⟨L, hL⟩ : ∃ L, L = outL I G k := ⟨_, rfl⟩
              rw [← hL] at hlen hN
              have HNL := hide hN
              have HSL : Hid (SoP X L) := by rw [hL]; exact unhide HS
              obtain ⟨N, hNe⟩ : ∃ N, N = 1 + j + k := ⟨_, rfl⟩
              rw [← hNe] at hlen
              have hcast : (1 + (j : Int) + (k : Int)) = (N : Int) := by omega
              have hN7 : N ≤ 700 := by omega
              have hmk := run_make_wide (P := Tryd.prog) 32 4 _ 1 1 Tryd.underlying32 infoBoo .i64 .i64 N (by omega) (by omega)
              simp only [Nat.mul_one] at hmk
              have HLEN := hide hlen
              have wr2 : w1.heap.size < wr.heap.size := by omega
              clear hL hN hlen hNe HS HN
              go_wp2_with fail
              refine (netMany_any _ _ _ _ _ hm0 hm1 (by omega)).mono ?_
              rintro e w5 ⟨rfl, b5⟩
              rw [hcast]
              have HX5 := hide (hws.later b5)
              have B5 := hbel.trans (b5.mono hbel.size)
              have wr5 := Nat.lt_of_lt_of_le wr2 b5.size
              have ws5 := B5.size
              clear b5 hws hcast p0 p1
              go_wp2
              go_loopw [56] (fun i wq => ∃ t : Nat, t ≤ N ∧ i = .int .i64 t ∧ Bls wq w5.heap.size 0 t (atB L) ∧ Made wq w5.heap.size N ∧ WSet wq w1.heap.size 0 11 X ∧ Below w.heap.size w wq) (fun i _ => N - (intOf i).toNat)
              case atStart =>
                have b6 : Below w5.heap.size w5 (w5.alloc (.cells (madeCells (Value.bool false).cells N) 4)) := (Below.refl _ _).alloc (Nat.le_refl _) _
                exact ⟨0, by omega, rfl, fun i hi => by omega, Made.new _ _ _ _, (unhide HX5).later b6, B5.trans (b6.mono B5.size)⟩
              case round =>
                obtain ⟨t, ht, rfl, hbt, hmt, hxt, hbelt⟩ := hrel
                have HBt := hide hbt
                have HMt := hide hmt
                have HXt := hide hxt
                clear hbt hmt hxt
                by_cases hlt2 : t < N
                · have hba : bareI ((t : Int) + 1) = (t : Int) + 1 := bareI_pos (by omega)
                  have hv : inW X ((t : Int) + 1).toNat = atB L t := by
                    have e : ((t : Int) + 1).toNat = t + 1 := by omega
                    rw [e, unhide HSL]; simp
                  have lt5 := (unhide HMt).1
                  go_wp2_with fail
                  refine (has_any _ _ X _ _ (unhide HXt).1 (by unfold W64; omega) (by rw [hba]; omega) (by rw [hba]; omega)).mono ?_
                  rintro e w6 ⟨rfl, nn, rfl⟩
                  rw [hba, hv]
                  obtain ⟨⟨u0, q0⟩, f0⟩ := (unhide HMt).2 t (by omega)
                  have q0' : (wr.drewN nn).cell? ⟨w5.heap.size, t, none⟩ = some u0 := q0
                  have f0' : (wr.drewN nn).frozen? ⟨w5.heap.size, t, none⟩ = false := f0
                  have HP := hide (Bls.put (w := wr.drewN nn) (unhide HBt) q0')
                  have HM6 := hide (Made.set (w := wr.drewN nn) (unhide HMt) ⟨w5.heap.size, t, none⟩ (.bool (atB L t)))
                  have HX6 : Hid (WSet ((wr.drewN nn).setCell ⟨w5.heap.size, t, none⟩ (.bool (atB L t))) w1.heap.size 0 11 X) := WSet.mov (w := wr.drewN nn) ((unhide HXt).drewN nn) (Mov.set _ _ _) (by omega)
                  clear q0 f0 hv
                  go_wp2
                  go_roundw
                  case rel => exact ⟨t + 1, by omega, by go_num, unhide HP, unhide HM6, unhide HX6, (below_drewN hbelt nn).setCell (by simp only; omega) _⟩
                  case measure => simp [intOf]; omega
                · have et : t = N := by omega
                  subst et
                  go_wp2
                  go_ret
                  rw [unhide HNL]
                  refine ⟨⟨some ⟨w5.heap.size, 0, none⟩, t, by rw [unhide HLEN]; rfl, ?_, ?_⟩, hbelt⟩
                  · rw [unhide HLEN]; exact (unhide HBt).at (unhide HMt).1
                  · rw [unhide HLEN]; exact Or.inr ⟨_, rfl, ws5, unhide HMt⟩
    · have HN := hide (nvL_no (I := I) (fun h => hm (by rw [← hI]; exact h.2)) : nvL m n G I = [])
      have kb : ((l : Int) != m) = true := by simp [hm]
      go_wp2
      go_ret
      rw [unhide HN]
      exact ⟨⟨_, _, rfl, Or.inl rfl, Or.inl rfl⟩, B1⟩
end Go.Proofs.YtmpiiilkaadhfaaDoor
