/- The program's TermSort, and what it calls, where there may be no names and their list nil. -/
import Derived.Test.YtfopmobopmdahaaGreatPwD
namespace Go.Proofs.YtfopmobopmdahaaGreat
open Go.ChangeShapes Go.WideShapes Go.ChangeAt Go.RowKit Go.Joins
set_option linter.unusedVariables false
set_option linter.unusedSimpArgs false

set_option maxRecDepth 100000 in
set_option maxHeartbeats 2000000 in
theorem iDeclOkD_any (b off n cap : Nat) (S : Nat → ByteArray) (V : Nat → Int) (w : World) (hb : b < w.heap.size) (hd : Decs w b off n S V) (hnc : n ≤ cap) (hn : n ≤ 1048576) (hs : ∀ i, i < n → (S i).size ≤ 1048576) {da : Option Addr} (hda : 0 < n → da = some ⟨b, off, none⟩) :
    Calls Tryz.prog 70 #[.slice da n cap] w fun e w' => e = .returned (.bool (declB n S V)) ∧ Below w.heap.size w w' := by
  have HD := hide hd
  have HS := hide hs
  clear hd hs
  by_cases h4 : n ≤ 4
  · go_enter Tryz.func70, Tryz.ntmps70
    go_wp2
    go_loopw [3, 13] (fun s i wr => ∃ k : Nat, k ≤ n ∧ i = .int .i64 k ∧ s = .int .i64 (sumV V k) ∧ (∀ j, j < k → AtP S V j) ∧ Below w.heap.size w wr) (fun _ i _ => n - (intOf i).toNat)
    case atStart => exact ⟨0, by omega, rfl, rfl, fun j hj => by omega, (by repeat (first | exact Below.refl _ _ | assumption | refine below_drewN ?_ _ | refine Below.drew ?_ | refine Below.alloc ?_ (by first | exact Nat.le_refl _ | exact Below.size (by assumption) | (simp; done) | (simp; omega)) _ | refine Below.setCell ?_ (by first | exact Nat.le_refl _ | exact Below.size (by assumption) | (simp; done) | (simp; omega)) _ | refine Below.trans ?_ (by assumption)))⟩
    case round =>
      obtain ⟨k, hk, rfl, rfl, hlo, hbel⟩ := hrel
      have HL := hide hlo
      have hsb := sumV_bd (V := V) (k := k) (fun i hi => ⟨(hlo i hi).2.1, (hlo i hi).2.2.1⟩)
      obtain ⟨hs0, hs1⟩ := hsb
      clear hlo
      have HU := hide (show sumV V (k + 1) = sumV V k + V k from rfl)
      by_cases hlt : k < n
      · obtain rfl := hda (by omega)
        obtain ⟨c0, c1⟩ := unhide HD k hlt
        have d0 := (hbel.cell (p := ⟨b, off + k * 2, none⟩) hb).trans c0
        have d1 := (hbel.cell (p := ⟨b, off + k * 2 + 1, none⟩) hb).trans c1
        clear c0 c1
        have hsk := unhide HS k hlt
        go_wp2_with fail
        refine (nameOk_any _ _ hsk).mono ?_
        rintro e w1 ⟨rfl, b1⟩
        have p0 : w1.cell? ⟨wr.heap.size, 0, none⟩ = some (.string (S k)) := cell_later b1 (by simp [go_sem])
        have p1 : w1.cell? ⟨wr.heap.size, 1, none⟩ = some (.int .i64 (V k)) := cell_later b1 (by simp [go_sem])
        have pl := World.block_lt_of_cell? _ _ p0
        have BL : Below w.heap.size w w1 := Below.trans ((by repeat (first | exact Below.refl _ _ | assumption | refine below_drewN ?_ _ | refine Below.drew ?_ | refine Below.alloc ?_ (by first | exact Nat.le_refl _ | exact Below.size (by assumption) | (simp; done) | (simp; omega)) _ | refine Below.setCell ?_ (by first | exact Nat.le_refl _ | exact Below.size (by assumption) | (simp; done) | (simp; omega)) _ | refine Below.trans ?_ (by assumption)))) (b1.mono (by have := hbel.size; simp; omega))
        clear b1 d0 d1
        by_cases g1 : NameP (S k)
        · have n1 := nameB_yes g1
          by_cases g2 : 1 ≤ V k
          · have m2 : decide (V k < 1) = false := by simp; omega
            by_cases g3 : V k ≤ 4
            · have m3 : decide (4 < V k) = false := by simp; omega
              have HG := hide g1
              clear g1
              go_wp2
              generalize wr.heap.size = B at *
              go_loopw [36] (fun i w2 => ∃ j : Nat, j ≤ k ∧ i = .int .i64 j ∧ (∀ q, q < j → (S q).toList ≠ (S k).toList) ∧ Below w1.heap.size w1 w2) (fun i _ => k - (intOf i).toNat)
              case atStart => exact ⟨0, by omega, rfl, fun q hq => by omega, Below.refl _ _⟩
              case round =>
                obtain ⟨j, hj, rfl, hq, hb2⟩ := hrel
                have HQ := hide hq
                clear hq
                have P0 := (hb2.cell (p := ⟨B, 0, none⟩) pl).trans p0
                have P1 := (hb2.cell (p := ⟨B, 1, none⟩) pl).trans p1
                have hBw : B < wr.heap.size := Nat.lt_of_lt_of_le pl hb2.size
                have hBn : B ≠ wr.heap.size := by omega
                have hbw := Nat.lt_of_lt_of_le hb (Nat.le_trans BL.size hb2.size)
                have BJ := BL.trans (hb2.mono BL.size)
                by_cases hjk : j < k
                · obtain ⟨c0, c1⟩ := unhide HD j (by omega)
                  have d0 := (BJ.cell (p := ⟨b, off + j * 2, none⟩) hb).trans c0
                  have d1 := (BJ.cell (p := ⟨b, off + j * 2 + 1, none⟩) hb).trans c1
                  clear c0 c1
                  by_cases he : (S j).toList = (S k).toList
                  · have heb : ((S j).toList == (S k).toList) = true := by simp [he]
                    have HN := hide (declB_no (n := n) (S := S) (V := V) (fun h => (h.2.1 k hlt).2.2.2 j hjk he))
                    clear he
                    go_wp2
                    rw [unhide HN]
                    go_ret
                    exact ⟨rfl, (by repeat (first | exact Below.refl _ _ | assumption | refine below_drewN ?_ _ | refine Below.drew ?_ | refine Below.alloc ?_ (by first | exact Nat.le_refl _ | exact Below.size (by assumption) | (simp; done) | (simp; omega)) _ | refine Below.setCell ?_ (by first | exact Nat.le_refl _ | exact Below.size (by assumption) | (simp; done) | (simp; omega)) _ | refine Below.trans ?_ (by assumption)))⟩
                  · have heb : ((S j).toList == (S k).toList) = false := by simp [he]
                    have HE := hide he
                    clear he
                    go_wp2
                    go_roundw
                    case rel =>
                      refine ⟨j + 1, by omega, by go_num, ?_, (by repeat (first | exact Below.refl _ _ | assumption | refine below_drewN ?_ _ | refine Below.drew ?_ | refine Below.alloc ?_ (by first | exact Nat.le_refl _ | exact Below.size (by assumption) | (simp; done) | (simp; omega)) _ | refine Below.setCell ?_ (by first | exact Nat.le_refl _ | exact Below.size (by assumption) | (simp; done) | (simp; omega)) _ | refine Below.trans ?_ (by assumption)))⟩
                      intro q hq
                      by_cases e : q = j
                      · subst e; exact unhide HE
                      · exact unhide HQ q (by omega)
                    case measure => simp [intOf]; omega
                · have ejk : j = k := by omega
                  have HA : Hid (AtP S V k) := ⟨unhide HG, g2, g3, by rw [← ejk]; exact fun q hq => by rw [ejk]; exact unhide HQ q hq⟩
                  go_wp2
                  go_roundw
                  case rel =>
                    refine ⟨k + 1, by omega, by go_num, by rw [unhide HU], ?_, BJ⟩
                    intro j hj
                    by_cases e : j = k
                    · subst e; exact unhide HA
                    · exact unhide HL j (by omega)
                  case measure => simp [intOf]; omega
            · have m3 : decide (4 < V k) = true := by simp; omega
              have HN := hide (declB_no (n := n) (S := S) (V := V) (fun h => g3 (h.2.1 k hlt).2.2.1))
              go_wp2
              rw [unhide HN]
              go_ret
              exact ⟨rfl, BL⟩
          · have m2 : decide (V k < 1) = true := by simp; omega
            have HN := hide (declB_no (n := n) (S := S) (V := V) (fun h => g2 (h.2.1 k hlt).2.1))
            go_wp2
            rw [unhide HN]
            go_ret
            exact ⟨rfl, BL⟩
        · have n1 := nameB_no g1
          have HN := hide (declB_no (n := n) (S := S) (V := V) (fun h => g1 (h.2.1 k hlt).1))
          go_wp2
          rw [unhide HN]
          go_ret
          exact ⟨rfl, BL⟩
      · have e : k = n := by omega
        subst e
        have HN := hide (declB_end h4 (unhide HL))
        go_wp2
        rw [unhide HN]
        go_ret
        exact ⟨rfl, hbel⟩
  · have HN := hide (declB_no (n := n) (S := S) (V := V) (fun h => h4 h.1))
    go_enter Tryz.func70, Tryz.ntmps70
    go_wp2
    rw [unhide HN]
    go_ret
    exact ⟨rfl, (by repeat (first | exact Below.refl _ _ | assumption | refine below_drewN ?_ _ | refine Below.drew ?_ | refine Below.alloc ?_ (by first | exact Nat.le_refl _ | exact Below.size (by assumption) | (simp; done) | (simp; omega)) _ | refine Below.setCell ?_ (by first | exact Nat.le_refl _ | exact Below.size (by assumption) | (simp; done) | (simp; omega)) _ | refine Below.trans ?_ (by assumption)))⟩
set_option maxRecDepth 100000 in
set_option maxHeartbeats 2000000 in
theorem iEnvOkD_any (b off n cap : Nat) (S : Nat → ByteArray) (V : Nat → Int) (c off' m cap' : Nat) (E : Nat → Int) (w : World) (hb : b < w.heap.size) (hd : Decs w b off n S V) (hnc : n ≤ cap) (hn : n ≤ 1048576) (hs : ∀ i, i < n → (S i).size ≤ 1048576)
    (hc : c < w.heap.size) (he : Ints w c off' m E) (hm : m ≤ 1048576) {da : Option Addr} (hda : 0 < n → da = some ⟨b, off, none⟩) :
    Calls Tryz.prog 88 #[.slice da n cap, .slice (some ⟨c, off', none⟩) m cap'] w fun e w' => e = .returned (.bool (envB n m S V E)) ∧ Below w.heap.size w w' := by
  have HD := hide hd
  have HS := hide hs
  have HE := hide he
  clear hd hs he
  go_enter Tryz.func88, Tryz.ntmps88
  go_wp2_with fail
  refine (iDeclOkD_any _ _ _ _ _ _ _ hb (unhide HD) hnc hn (unhide HS) hda).mono ?_
  rintro e w1 ⟨rfl, b1⟩
  by_cases hD : DeclP n S V
  · have hDb := declB_yes hD
    by_cases hnm : n = m
    · subst hnm
      have kb : ((n : Int) != (n : Int)) = false := by simp
      have HDP := hide hD
      clear hD
      go_wp2
      go_loopw [19] (fun i wr => ∃ k : Nat, k ≤ n ∧ i = .int .i64 k ∧ (∀ j, j < k → okB (V j) (E j) = true) ∧ Below w.heap.size w wr) (fun i _ => n - (intOf i).toNat)
      case atStart => exact ⟨0, by omega, rfl, fun j hj => by omega, b1⟩
      case round =>
        obtain ⟨k, hk, rfl, hok, hbel⟩ := hrel
        have HK := hide hok
        clear hok
        by_cases hlt : k < n
        · obtain rfl := hda (by omega)
          have d0 := (hbel.cell (p := ⟨b, off + k * 2, none⟩) hb).trans (unhide HD k hlt).1
          have d1 := (hbel.cell (p := ⟨b, off + k * 2 + 1, none⟩) hb).trans (unhide HD k hlt).2
          have g0 := (hbel.cell (p := ⟨c, off' + k, none⟩) hc).trans (unhide HE k hlt)
          cases hv : okB (V k) (E k)
          · have HN := hide (envB_no (n := n) (m := n) (S := S) (V := V) (E := E) (fun h => by have := h.2.2 k hlt; rw [hv] at this; cases this))
            go_wp2
            obtain ⟨wz, hwz⟩ : ∃ wz, wz = wr.alloc (.cells #[.string (S k), .int .i64 (V k)] 40) := ⟨_, rfl⟩
            have BZ : Below w.heap.size w wz := by rw [hwz]; exact hbel.alloc hbel.size _
            have P1 : wz.cell? ⟨wr.heap.size, 1, none⟩ = some (.int .i64 (V k)) := by rw [hwz]; simp [go_sem]
            have G0 : wz.cell? ⟨c, off' + k, none⟩ = some (.int .i64 (E k)) := by rw [hwz]; exact cell_later ((Below.refl _ _).alloc (Nat.le_refl _) _) g0
            rw [← hwz]
            clear hwz d0 d1 g0 hbel
            generalize wr.heap.size = B at *
            go_region_held3 (fun w' => w'.cell? ⟨B, 1, none⟩ = some (.int .i64 (V k)) ∧ w'.cell? ⟨c, off' + k, none⟩ = some (.int .i64 (E k))) (first | go_keep | exact ⟨P1, G0⟩)
              (first | (go_at_call 92; refine (iVecOk_any _ _ _).mono ?_; rintro e wq ⟨rfl, bq⟩; have BL := (by first | exact BZ.trans (bq.mono BZ.size) | exact BZ.drew.trans (bq.mono BZ.size)); have P1 := cell_later bq (by exact P1); have G0 := cell_later bq (by exact G0)))
            all_goals go_wp2
            all_goals rw [unhide HN]
            all_goals go_ret
            all_goals exact ⟨rfl, (by first | exact BL | exact BL.drew)⟩
          · have HK1 : Hid (∀ j, j < k + 1 → okB (V j) (E j) = true) := fun j hj => by
              by_cases e : j = k
              · subst e; exact hv
              · exact unhide HK j (by omega)
            go_wp2
            obtain ⟨wz, hwz⟩ : ∃ wz, wz = wr.alloc (.cells #[.string (S k), .int .i64 (V k)] 40) := ⟨_, rfl⟩
            have BZ : Below w.heap.size w wz := by rw [hwz]; exact hbel.alloc hbel.size _
            have P1 : wz.cell? ⟨wr.heap.size, 1, none⟩ = some (.int .i64 (V k)) := by rw [hwz]; simp [go_sem]
            have G0 : wz.cell? ⟨c, off' + k, none⟩ = some (.int .i64 (E k)) := by rw [hwz]; exact cell_later ((Below.refl _ _).alloc (Nat.le_refl _) _) g0
            rw [← hwz]
            clear hwz d0 d1 g0 hbel
            generalize wr.heap.size = B at *
            go_region_held3 (fun w' => w'.cell? ⟨B, 1, none⟩ = some (.int .i64 (V k)) ∧ w'.cell? ⟨c, off' + k, none⟩ = some (.int .i64 (E k))) (first | go_keep | exact ⟨P1, G0⟩)
              (first | (go_at_call 92; refine (iVecOk_any _ _ _).mono ?_; rintro e wq ⟨rfl, bq⟩; have BL := (by first | exact BZ.trans (bq.mono BZ.size) | exact BZ.drew.trans (bq.mono BZ.size)); have P1 := cell_later bq (by exact P1); have G0 := cell_later bq (by exact G0)))
            all_goals go_wp2
            all_goals go_roundw
            all_goals first | exact ⟨k + 1, by omega, by go_num, unhide HK1, (by first | exact BL | exact BL.drew)⟩ | (simp [intOf]; omega)
        · have e : k = n := by omega
          subst e
          have HN := hide (envB_yes (S := S) ⟨unhide HDP, rfl, unhide HK⟩)
          go_wp2
          rw [unhide HN]
          go_ret
          exact ⟨rfl, hbel⟩
    · have kb : ((n : Int) != (m : Int)) = true := by simp; omega
      have HN := hide (envB_no (n := n) (m := m) (S := S) (V := V) (E := E) (fun h => hnm h.2.1))
      go_wp2
      rw [unhide HN]
      go_ret
      exact ⟨rfl, b1⟩
  · have hDb := declB_no hD
    have HN := hide (envB_no (n := n) (m := m) (S := S) (V := V) (E := E) (fun h => hD h.1))
    go_wp2
    rw [unhide HN]
    go_ret
    exact ⟨rfl, b1⟩
set_option maxRecDepth 100000 in
set_option maxHeartbeats 2000000 in
theorem knownD_any (b off n cap c off' cap' : Nat) (S : Nat → ByteArray) (V E : Nat → Int) (w : World) (hb : b < w.heap.size) (hd : Decs w b off n S V) (hc : c < w.heap.size) (he : Ints w c off' n E) (hn : n ≤ 4) (hne : ∀ i, i < n → ∀ j, j < i → (S j).toList ≠ (S i).toList) (hs : ∀ i, i < n → (S i).size ≤ 1048576) {da : Option Addr} (hda : 0 < n → da = some ⟨b, off, none⟩) :
    Calls Tryz.prog 90 #[.slice da n cap, .slice (some ⟨c, off', none⟩) n cap'] w fun e w' => (∃ B, e = .returned (.map (some B)) ∧ Known w' B n S V E) ∧ Below w.heap.size w w' := by
  have HD := hide hd
  have HE := hide he
  have HN := hide hne
  have HS := hide hs
  clear hd he hne hs
  have hmm := @run_makeMap Tryz.prog
  go_enter Tryz.func90, Tryz.ntmps90
  go_wp2
  clear hmm
  go_loopw [11] (fun i wr => ∃ k : Nat, k ≤ n ∧ i = .int .i64 k ∧ Known wr w.heap.size k S V E ∧ Below w.heap.size w wr) (fun i _ => n - (intOf i).toNat)
  case atStart =>
    refine ⟨0, by omega, rfl, ⟨.map [], 0, World.ownsMap_made _ _ _ _, Nat.le_refl _, fun s => ⟨fun _ => rfl, fun k hk => ?_⟩⟩, (by repeat (first | exact Below.refl _ _ | assumption | refine below_drewN ?_ _ | refine Below.drew ?_ | refine Below.alloc ?_ (by first | exact Nat.le_refl _ | exact Below.size (by assumption) | (simp; done) | (simp; omega)) _ | refine Below.setCell ?_ (by first | exact Nat.le_refl _ | exact Below.size (by assumption) | (simp; done) | (simp; omega)) _ | refine Below.trans ?_ (by assumption)))⟩
    simp only [findI] at hk
    omega
  case round =>
    obtain ⟨k, hk, rfl, hkn, hbel⟩ := hrel
    have hltB := hkn.lt
    have KN := hide hkn
    clear hkn
    by_cases hlt : k < n
    · obtain rfl := hda (by omega)
      have d0 := (hbel.cell (p := ⟨b, off + k * 2, none⟩) hb).trans (unhide HD k hlt).1
      have d1 := (hbel.cell (p := ⟨b, off + k * 2 + 1, none⟩) hb).trans (unhide HD k hlt).2
      have g0w := (hbel.cell (p := ⟨c, off' + k, none⟩) hc).trans (unhide HE k hlt)
      go_wp2
      obtain ⟨wz, hwz⟩ : ∃ wz, wz = wr.alloc (.cells #[.string (S k), .int .i64 (V k)] 40) := ⟨_, rfl⟩
      have bz : Below wr.heap.size wr wz := by rw [hwz]; exact (Below.refl _ _).alloc (Nat.le_refl _) _
      have q0 : wz.cell? ⟨wr.heap.size, 0, none⟩ = some (.string (S k)) := by rw [hwz]; simp [go_sem]
      have q1 : wz.cell? ⟨wr.heap.size, 1, none⟩ = some (.int .i64 (V k)) := by rw [hwz]; simp [go_sem]
      have g0 : wz.cell? ⟨c, off' + k, none⟩ = some (.int .i64 (E k)) := cell_later bz g0w
      rw [← hwz]
      have BZ := hbel.trans (bz.mono hbel.size)
      obtain ⟨D, m, ho, hm, hall⟩ := (unhide KN).later bz
      have hAl := World.block_lt_of_cell? _ _ q0
      have hAn : w.heap.size < wr.heap.size := hltB
      generalize wr.heap.size = A at *
      have hkey : keyOf Tryz.prog 9 (.string (S k)) = some (keyL (S k)) := Go.WideMaps.keyOf_string_mk Tryz.underlying9 (by have := unhide HS k hlt; unfold maxLen; omega)
      have hml : m < maxLen := by unfold maxLen; omega
      obtain ⟨w2, hrun, ho2, hg2⟩ := (show wz.drew.ownsMap Tryz.prog 9 vecElem w.heap.size m D from ho).update lawK Tryz.underlying121 hml hkey (vecElem_mk (V k) (E k))
      have kc : ∀ (p : Addr) (v : Value), wz.cell? p = some v → p.block ≠ w.heap.size → w2.cell? p = some v := by
        intro p v hp hne
        rw [World.cell?_of_block (w := wz.drew) (hg2.block p.block (World.block_lt_of_cell? _ _ hp) (by simp [hne]))]
        exact hp
      have HF := hide (known_put (E := E) (V := V) ho.isMap (unhide HN k hlt) hall)
      have HO := hide ho2
      have HG := hide hg2
      clear hwz bz d0 d1 g0w hall ho ho2 hg2 KN
      refine wp_region_held_drew (S := (fun w' => w'.cell? ⟨A, 0, none⟩ = some (.string (S k)) ∧ w'.cell? ⟨A, 1, none⟩ = some (.int .i64 (V k)) ∧ w'.cell? ⟨c, off' + k, none⟩ = some (.int .i64 (E k)))) (by kernel_rfl) ?_ (fun hHeld => ?_)
      · exact ⟨q0, q1, g0⟩
      refine wpAnyH_take (i := 0) (v := ?_) rfl (by kernel_rfl) (by kernel_rfl) (by kernel_rfl) (fun _ _ _ h => h) (Or.inl ⟨by rfl, ?_⟩) (by assumption) ?_
      rotate_left
      · (intro w hSw; (try dsimp only at hSw); first | (go_simp; done) | (go_simp; with_reducible rfl))
      try simp only [List.getElem_toArray, List.getElem_cons_succ, List.getElem_cons_zero, Act.put, List.setIfInBounds_toArray, List.set_cons_zero, List.set_cons_succ]
      refine wpAnyH_take (i := 1) (v := ?_) rfl (by kernel_rfl) (by kernel_rfl) (by kernel_rfl) (fun _ _ _ h => h) (Or.inl ⟨by rfl, ?_⟩) (by assumption) ?_
      rotate_left
      · (intro w hSw; (try dsimp only at hSw); first | (go_simp; done) | (go_simp; with_reducible rfl))
      try simp only [List.getElem_toArray, List.getElem_cons_succ, List.getElem_cons_zero, Act.put, List.setIfInBounds_toArray, List.set_cons_zero, List.set_cons_succ]
      refine wpAnyH_take (i := 2) (v := ?_) rfl (by kernel_rfl) (by kernel_rfl) (by kernel_rfl) (fun _ _ _ h => h) (Or.inl ⟨by rfl, ?_⟩) (by assumption) ?_
      rotate_left
      · (intro w hSw; (try dsimp only at hSw); first | (go_simp; done) | (go_simp; with_reducible rfl))
      try simp only [List.getElem_toArray, List.getElem_cons_succ, List.getElem_cons_zero, Act.put, List.setIfInBounds_toArray, List.set_cons_zero, List.set_cons_succ]
      refine wpAnyH_take (i := 3) (v := ?_) rfl (by kernel_rfl) (by kernel_rfl) (by kernel_rfl) (fun _ _ _ h => h) (Or.inl ⟨by rfl, ?_⟩) (by assumption) ?_
      rotate_left
      · (intro w hSw; (try dsimp only at hSw); first | (go_simp; done) | (go_simp; with_reducible rfl))
      try simp only [List.getElem_toArray, List.getElem_cons_succ, List.getElem_cons_zero, Act.put, List.setIfInBounds_toArray, List.set_cons_zero, List.set_cons_succ]
      refine wpAnyH_take (i := 4) (v := ?_) rfl (by kernel_rfl) (by kernel_rfl) (by kernel_rfl) (fun _ _ _ h => h) (Or.inl ⟨by rfl, ?_⟩) (by assumption) ?_
      rotate_left
      · (intro w hSw; (try dsimp only at hSw); first | (go_simp; done) | (go_simp; with_reducible rfl))
      try simp only [List.getElem_toArray, List.getElem_cons_succ, List.getElem_cons_zero, Act.put, List.setIfInBounds_toArray, List.set_cons_zero, List.set_cons_succ]
      refine wpAnyH_take (i := 5) (v := ?_) rfl (by kernel_rfl) (by kernel_rfl) (by kernel_rfl) (fun _ _ _ h => h) (Or.inl ⟨by rfl, ?_⟩) (by assumption) ?_
      rotate_left
      · (intro w hSw; (try dsimp only at hSw); first | (go_simp; done) | (go_simp; with_reducible rfl))
      try simp only [List.getElem_toArray, List.getElem_cons_succ, List.getElem_cons_zero, Act.put, List.setIfInBounds_toArray, List.set_cons_zero, List.set_cons_succ]
      refine wpAnyH_take (i := 6) (v := ?_) rfl (by kernel_rfl) (by kernel_rfl) (by kernel_rfl) (fun _ _ _ h => h) (Or.inl ⟨by rfl, ?_⟩) (by assumption) ?_
      rotate_left
      · (intro w hSw; (try dsimp only at hSw); first | (go_simp; done) | (go_simp; with_reducible rfl))
      try simp only [List.getElem_toArray, List.getElem_cons_succ, List.getElem_cons_zero, Act.put, List.setIfInBounds_toArray, List.set_cons_zero, List.set_cons_succ]
      refine wpAnyH_take (i := 7) (v := ?_) rfl (by kernel_rfl) (by kernel_rfl) (by kernel_rfl) (fun _ _ _ h => h) (Or.inl ⟨by rfl, ?_⟩) (by assumption) ?_
      rotate_left
      · (intro w hSw; (try dsimp only at hSw); first | (go_simp; done) | (go_simp; with_reducible rfl))
      try simp only [List.getElem_toArray, List.getElem_cons_succ, List.getElem_cons_zero, Act.put, List.setIfInBounds_toArray, List.set_cons_zero, List.set_cons_succ]
      refine wpAnyH_take (i := 8) (v := ?_) rfl (by kernel_rfl) (by kernel_rfl) (by kernel_rfl) (fun _ _ _ h => h) (Or.inl ⟨by rfl, ?_⟩) (by assumption) ?_
      rotate_left
      · (intro w hSw; (try dsimp only at hSw); first | (go_simp; done) | (go_simp; with_reducible rfl))
      try simp only [List.getElem_toArray, List.getElem_cons_succ, List.getElem_cons_zero, Act.put, List.setIfInBounds_toArray, List.set_cons_zero, List.set_cons_succ]
      refine wpAnyH_take (i := 9) (v := ?_) rfl (by kernel_rfl) (by kernel_rfl) (by kernel_rfl) (fun _ _ _ h => h) (Or.inl ⟨by rfl, ?_⟩) (by assumption) ?_
      rotate_left
      · (intro w hSw; (try dsimp only at hSw); first | (go_simp; done) | (go_simp; with_reducible rfl))
      try simp only [List.getElem_toArray, List.getElem_cons_succ, List.getElem_cons_zero, Act.put, List.setIfInBounds_toArray, List.set_cons_zero, List.set_cons_succ]
      refine wpAnyH_ready (rs := [10]) (by kernel_rfl) (by simp) ?_
      refine AllReadyH.cons rfl (fun K hK => ?_) AllReadyH.nil
      go_simp
      refine hK.out _ _ ?_ (fun hHeld => ?_)
      · exact ⟨kc _ _ q0 (by simp only; omega), kc _ _ q1 (by simp only; omega), kc _ _ g0 (by simp only; omega)⟩
      clear hK K
      try simp only [List.getElem_toArray, List.getElem_cons_succ, List.getElem_cons_zero, Act.put, List.setIfInBounds_toArray, List.set_cons_zero, List.set_cons_succ]
      refine wpAnyH_done (by kernel_rfl) ?_ _
      go_wp2
      go_roundw
      case rel =>
        refine ⟨k + 1, by omega, by go_num, ⟨_, m + 1, unhide HO, by omega, unhide HF⟩, ?_⟩
        exact (show Below w.heap.size w wz.drew from BZ.drew).grown (unhide HG) BZ.size (fun j hj => by simp at hj; omega)
      case measure => simp [intOf]; omega
    · have e : k = n := by omega
      subst e
      go_wp2
      go_ret
      exact ⟨⟨_, rfl, unhide KN⟩, hbel⟩
set_option maxRecDepth 100000 in
set_option maxHeartbeats 4000000 in
theorem termWorthD_any (bd offd n cap c offe l cape hi : Nat) (S : Nat → ByteArray) (V E : Nat → Int) (hn : n ≤ 1048576) (hnc : n ≤ cap) (hl : l ≤ 1048576) (hs : ∀ i, i < n → (S i).size ≤ 1048576) (t : TT) (ad : Option Addr) (cp : Nat) (w : World)
    (hin : t.In w 0 hi ad) (hft : t.Fit 1048576) (hhi : hi ≤ w.heap.size) (hbd : bd < w.heap.size) (hd : Decs w bd offd n S V) (hc : c < w.heap.size) (he : Ints w c offe l E) {da : Option Addr} (hda : 0 < n → da = some ⟨bd, offd, none⟩) :
    Calls Tryz.prog 82 #[.slice da n cap, .agg #[.int .i64 t.op, .int .i64 t.a, .int .i64 t.b, .string t.s, .slice ad t.n cp], .slice (some ⟨c, offe, none⟩) l cape] w fun e w' =>
      (∃ x y r, e = .returned (.tuple #[.agg #[.int .i64 x, .int .i64 y], .bool r]) ∧ (RightAll n l S V E t → Ans (t.sort n S V) (t.ev n S V E) x y r) ∧ (¬ RightAll n l S V E t → r = false)) ∧ Below w.heap.size w w' := by
  have HS := hide hs
  have HD := hide hd
  have HE := hide he
  have HI := hide hin
  have HF := hide hft
  clear hs hd hin hft he
  go_enter Tryz.func82, Tryz.ntmps82
  go_wp2_with fail
  have e1 := ((Below.refl w.heap.size w).alloc (Nat.le_refl _) (.cells #[.int .i64 t.op, .int .i64 t.a, .int .i64 t.b, .string t.s, .slice ad t.n cp] 50)).alloc (by simp) (.cells #[.int .i64 0, .int .i64 0] 107)
  refine (iMany_any hi t _ _ _ ((unhide HI).later (e1.mono hhi)) (unhide HF) (by simp; omega)).mono ?_
  rintro e w1 ⟨rfl, b1⟩
  have P : Five w1 w.heap.size 0 t ad cp := ⟨cell_later b1 (by simp [go_sem]), cell_later b1 (by simp [go_sem]), cell_later b1 (by simp [go_sem]), cell_later b1 (by simp [go_sem]), cell_later b1 (by simp [go_sem])⟩
  have r0 : w1.cell? ⟨w.heap.size + 1, 0, none⟩ = some (.int .i64 0) := cell_later b1 (by simp [go_sem])
  have r1 : w1.cell? ⟨w.heap.size + 1, 1, none⟩ = some (.int .i64 0) := cell_later b1 (by simp [go_sem])
  have f0 : w1.frozen? ⟨w.heap.size + 1, 0, none⟩ = false := by rw [b1.frozen (by simp)]; simp [go_sem]
  have f1 : w1.frozen? ⟨w.heap.size + 1, 1, none⟩ = false := by rw [b1.frozen (by simp)]; simp [go_sem]
  have BL := e1.trans (b1.mono (by simp; omega))
  have kz : w.heap.size + 2 ≤ w1.heap.size := by have := b1.size; simp at this; omega
  replace HI := hide ((unhide HI).later (BL.mono hhi))
  replace HD := hide ((unhide HD).later BL)
  replace HE := hide ((unhide HE).later BL)
  have kb := Nat.lt_of_lt_of_le hbd BL.size
  have kc := Nat.lt_of_lt_of_le hc BL.size
  clear b1 e1
  by_cases hm : t.N ≤ 20 ∧ t.D ≤ 7
  · rw [manyV_yes hm]
    have HM := hide hm
    obtain ⟨m1, m2⟩ := hm
    obtain ⟨p0, p1, p2, p3, p4⟩ := id P
    go_wp2_with fail
    refine (iEnvOkD_any _ _ _ _ _ _ _ _ _ _ _ _ kb (unhide HD) hnc hn (unhide HS) kc (unhide HE) hl hda).mono ?_
    rintro e w2 ⟨rfl, b2⟩
    clear p0 p1 p2 p3 p4
    replace P := P.later b2
    replace f0 := fz_later b2 r0 f0
    replace f1 := fz_later b2 r1 f1
    replace r0 := cell_later b2 r0
    replace r1 := cell_later b2 r1
    replace HI := hide ((unhide HI).later (b2.mono (by omega)))
    replace HD := hide ((unhide HD).later b2)
    replace HE := hide ((unhide HE).later b2)
    replace BL := BL.trans (b2.mono BL.size)
    replace kz := Nat.le_trans kz b2.size
    replace kb := Nat.lt_of_lt_of_le kb b2.size
    replace kc := Nat.lt_of_lt_of_le kc b2.size
    clear b2
    obtain ⟨p0, p1, p2, p3, p4⟩ := id P
    by_cases hE : EnvP n l S V E
    · have heb := envB_yes hE
      have HR : Hid (RightAll n l S V E t) := ⟨unhide HM, hE⟩
      obtain ⟨hDP, hnl, hok⟩ := hE
      subst hnl
      have HOK := hide hok
      have HNE : Hid (∀ i, i < n → ∀ j, j < i → (S j).toList ≠ (S i).toList) := fun i hi => (hDP.2.1 i hi).2.2.2
      have hn4 := hDP.1
      clear hok hDP
      go_wp2_with fail
      have nb : ¬ w.heap.size + 1 = w.heap.size := by omega
      refine wp_region_held_drew (S := (fun w' => w'.cell? ⟨w.heap.size, 0, none⟩ = some (.int .i64 t.op) ∧ w'.cell? ⟨w.heap.size, 1, none⟩ = some (.int .i64 t.a) ∧ w'.cell? ⟨w.heap.size, 2, none⟩ = some (.int .i64 t.b) ∧ w'.cell? ⟨w.heap.size, 3, none⟩ = some (.string t.s) ∧ w'.cell? ⟨w.heap.size, 4, none⟩ = some (.slice ad t.n cp))) (by kernel_rfl) ?_ (fun hHeld => ?_)
      · exact ⟨p0, p1, p2, p3, p4⟩
      refine wpAnyH_take (i := 0) (v := ?_) rfl (by kernel_rfl) (by kernel_rfl) (by kernel_rfl) (fun _ _ _ h => h) (Or.inl ⟨by rfl, ?_⟩) (by assumption) ?_
      rotate_left
      · (intro w hSw; (try dsimp only at hSw); first | (go_simp; done) | (go_simp; with_reducible rfl))
      try simp only [List.getElem_toArray, List.getElem_cons_succ, List.getElem_cons_zero, Act.put, List.setIfInBounds_toArray, List.set_cons_zero, List.set_cons_succ]
      refine wpAnyH_take (i := 1) (v := ?_) rfl (by kernel_rfl) (by kernel_rfl) (by kernel_rfl) (fun _ _ _ h => h) (Or.inl ⟨by rfl, ?_⟩) (by assumption) ?_
      rotate_left
      · (intro w hSw; (try dsimp only at hSw); first | (go_simp; done) | (go_simp; with_reducible rfl))
      try simp only [List.getElem_toArray, List.getElem_cons_succ, List.getElem_cons_zero, Act.put, List.setIfInBounds_toArray, List.set_cons_zero, List.set_cons_succ]
      refine wpAnyH_take (i := 3) (v := ?_) rfl (by kernel_rfl) (by kernel_rfl) (by kernel_rfl) (fun _ _ _ h => h) (Or.inl ⟨by rfl, ?_⟩) (by assumption) ?_
      rotate_left
      · (intro w hSw; (try dsimp only at hSw); first | (go_simp; done) | (go_simp; with_reducible rfl))
      try simp only [List.getElem_toArray, List.getElem_cons_succ, List.getElem_cons_zero, Act.put, List.setIfInBounds_toArray, List.set_cons_zero, List.set_cons_succ]
      refine wpAnyH_ready (rs := [2]) (by kernel_rfl) (by simp) ?_
      refine AllReadyH.cons rfl (fun K hK => ?_) AllReadyH.nil
      go_simp
      refine (knownD_any bd offd n cap c offe cape S V E _ (by exact kb) (by exact unhide HD) (by exact kc) (by exact unhide HE) hn4 (unhide HNE) (unhide HS) hda).mono ?_
      rintro e w3 ⟨⟨B, rfl, hkn⟩, b3⟩
      have HK := hide hkn
      clear hkn
      replace P := Five.later (by exact P) b3
      replace f0 := fzl b3 (World.block_lt_of_cell? _ _ (by exact r0)) (by exact f0)
      replace f1 := fzl b3 (World.block_lt_of_cell? _ _ (by exact r1)) (by exact f1)
      replace r0 := cell_later b3 (by exact r0)
      replace r1 := cell_later b3 (by exact r1)
      replace HI := hide (show t.In _ 0 hi ad from by first | exact (unhide HI).later (b3.mono (by exact Nat.le_trans hhi (Nat.le_trans (Nat.le_add_right _ _) kz))) | exact (unhide HI).drew.later (b3.mono (by exact Nat.le_trans hhi (Nat.le_trans (Nat.le_add_right _ _) kz))))
      replace BL := (show Below w.heap.size w _ from by first | exact BL.trans (b3.mono (by exact Nat.le_trans (Nat.le_add_right _ _) kz)) | exact BL.drew.trans (b3.mono (by exact Nat.le_trans (Nat.le_add_right _ _) kz)))
      replace kz := Nat.le_trans kz b3.size
      clear b3
      go_wp2_with fail
      refine hK.out _ _ ?_ (fun hHeld => ?_)
      · exact ⟨P.1, P.2.1, P.2.2.1, P.2.2.2.1, P.2.2.2.2⟩
      clear hK K
      try simp only [List.getElem_toArray, List.getElem_cons_succ, List.getElem_cons_zero, Act.put, List.setIfInBounds_toArray, List.set_cons_zero, List.set_cons_succ]
      refine wpAnyH_ready (rs := [4]) (by kernel_rfl) (by simp) ?_
      refine AllReadyH.cons rfl (fun K hK => ?_) AllReadyH.nil
      go_simp
      refine (partWorth_any hi B n S V E (unhide HOK) t _ _ _ (unhide HI) (unhide HF) (by omega) (unhide HK)).mono ?_
      rintro e w4 ⟨⟨x, y, r, rfl, hans⟩, b4⟩
      have HA := hide hans
      clear hans
      replace P := Five.later (by exact P) b4
      replace f0 := fzl b4 (World.block_lt_of_cell? _ _ (by exact r0)) (by exact f0)
      replace f1 := fzl b4 (World.block_lt_of_cell? _ _ (by exact r1)) (by exact f1)
      replace r0 := cell_later b4 (by exact r0)
      replace r1 := cell_later b4 (by exact r1)
      replace HI := hide (show t.In _ 0 hi ad from by first | exact (unhide HI).later (b4.mono (by exact Nat.le_trans hhi (Nat.le_trans (Nat.le_add_right _ _) kz))) | exact (unhide HI).drew.later (b4.mono (by exact Nat.le_trans hhi (Nat.le_trans (Nat.le_add_right _ _) kz))))
      replace BL := (show Below w.heap.size w _ from by first | exact BL.trans (b4.mono (by exact Nat.le_trans (Nat.le_add_right _ _) kz)) | exact BL.drew.trans (b4.mono (by exact Nat.le_trans (Nat.le_add_right _ _) kz)))
      replace kz := Nat.le_trans kz b4.size
      clear b4
      go_wp2_with fail
      refine hK.out _ _ ?_ (fun hHeld => ?_)
      · exact ⟨P.1, P.2.1, P.2.2.1, P.2.2.2.1, P.2.2.2.2⟩
      clear hK K
      try simp only [List.getElem_toArray, List.getElem_cons_succ, List.getElem_cons_zero, Act.put, List.setIfInBounds_toArray, List.set_cons_zero, List.set_cons_succ]
      refine wpAnyH_take (i := 5) (v := ?_) rfl (by kernel_rfl) (by kernel_rfl) (by kernel_rfl) (fun _ _ _ h => h) (Or.inl ⟨by rfl, ?_⟩) (by assumption) ?_
      rotate_left
      · (intro w hSw; (try dsimp only at hSw); first | (go_simp; done) | (go_simp; with_reducible rfl))
      try simp only [List.getElem_toArray, List.getElem_cons_succ, List.getElem_cons_zero, Act.put, List.setIfInBounds_toArray, List.set_cons_zero, List.set_cons_succ]
      refine wpAnyH_take (i := 6) (v := ?_) rfl (by kernel_rfl) (by kernel_rfl) (by kernel_rfl) (fun _ _ _ h => h) (Or.inl ⟨by rfl, ?_⟩) (by assumption) ?_
      rotate_left
      · (intro w hSw; (try dsimp only at hSw); first | (go_simp; done) | (go_simp; with_reducible rfl))
      try simp only [List.getElem_toArray, List.getElem_cons_succ, List.getElem_cons_zero, Act.put, List.setIfInBounds_toArray, List.set_cons_zero, List.set_cons_succ]
      refine wpAnyH_ready (rs := [7]) (by kernel_rfl) (by simp) ?_
      refine AllReadyH.cons rfl (fun K hK => ?_) AllReadyH.nil
      go_simp
      refine hK.out _ _ ?_ (fun hHeld => ?_)
      · exact (by simp only [World.cell?_setCell_far, nb, ne_eq, not_false_eq_true]; exact ⟨P.1, P.2.1, P.2.2.1, P.2.2.2.1, P.2.2.2.2⟩)
      clear hK K
      try simp only [List.getElem_toArray, List.getElem_cons_succ, List.getElem_cons_zero, Act.put, List.setIfInBounds_toArray, List.set_cons_zero, List.set_cons_succ]
      refine wpAnyH_take (i := 8) (v := ?_) rfl (by kernel_rfl) (by kernel_rfl) (by kernel_rfl) (fun _ _ _ h => h) (Or.inl ⟨by rfl, ?_⟩) (by assumption) ?_
      rotate_left
      · (intro w hSw; (try dsimp only at hSw); first | (go_simp; done) | (go_simp; with_reducible rfl))
      try simp only [List.getElem_toArray, List.getElem_cons_succ, List.getElem_cons_zero, Act.put, List.setIfInBounds_toArray, List.set_cons_zero, List.set_cons_succ]
      refine wpAnyH_done (by kernel_rfl) ?_ _
      go_wp2
      exact bodyPost_ret (v := .tuple #[.agg #[.int .i64 x, .int .i64 y], .bool r]) (by simp [results, Tryz.results82, go_sem, r0, r1]) rfl ⟨⟨_, _, _, rfl, fun _ => unhide HA, fun h => (h (unhide HR)).elim⟩, (BL.setCell (by simp) _).setCell (by simp) _⟩
    · have heb := envB_no hE
      have HR : Hid (¬ RightAll n l S V E t) := fun h => hE h.2
      clear hE
      go_wp2
      exact bodyPost_ret (v := .tuple #[.agg #[.int .i64 0, .int .i64 0], .bool false]) (by simp [results, Tryz.results82, go_sem, r0, r1]) rfl ⟨⟨_, _, _, rfl, fun h => (unhide HR h).elim, fun _ => rfl⟩, (BL.setCell (by simp) _).setCell (by simp) _⟩
  · rw [manyV_no hm]
    have HR : Hid (¬ RightAll n l S V E t) := fun h => hm h.1
    clear hm
    obtain ⟨p0, p1, p2, p3, p4⟩ := id P
    go_wp2
    exact bodyPost_ret (v := .tuple #[.agg #[.int .i64 0, .int .i64 0], .bool false]) (by simp [results, Tryz.results82, go_sem, r0, r1]) rfl ⟨⟨_, _, _, rfl, fun h => (unhide HR h).elim, fun _ => rfl⟩, (BL.setCell (by simp) _).setCell (by simp) _⟩
set_option maxRecDepth 100000 in
set_option maxHeartbeats 4000000 in
theorem iTermSortD_any (bd offd n cap hi : Nat) (S : Nat → ByteArray) (V : Nat → Int) (hn : n ≤ 1048576) (hnc : n ≤ cap) (hs : ∀ i, i < n → (S i).size ≤ 1048576) (t : TT) (ad : Option Addr) (cp : Nat) (w : World) (hin : t.In w 0 hi ad) (hft : t.Fit 1048576) (hhi : hi ≤ w.heap.size) (hbd : bd < w.heap.size) (hd : Decs w bd offd n S V) {da : Option Addr} (hda : 0 < n → da = some ⟨bd, offd, none⟩) :
    Calls Tryz.prog 72 #[.slice da n cap, .agg #[.int .i64 t.op, .int .i64 t.a, .int .i64 t.b, .string t.s, .slice ad t.n cp]] w fun e w' => e = .returned (.int .i64 (tsort n S V t)) ∧ Below w.heap.size w w' := by
  have HS := hide hs
  have HD := hide hd
  have HI := hide hin
  have HF := hide hft
  clear hs hd hin hft
  have hmk := run_make_wide (P := Tryz.prog) 97 3 _ 1 8 Tryz.underlying97 infoInt .i64 .i64 n (by omega) (by omega)
  simp only [Nat.mul_one] at hmk
  go_enter Tryz.func72, Tryz.ntmps72
  go_wp2_with fail
  have BL := (Below.refl w.heap.size w).alloc (Nat.le_refl _) (.cells #[.int .i64 t.op, .int .i64 t.a, .int .i64 t.b, .string t.s, .slice ad t.n cp] 50)
  have P : Five (w.alloc (.cells #[.int .i64 t.op, .int .i64 t.a, .int .i64 t.b, .string t.s, .slice ad t.n cp] 50)) w.heap.size 0 t ad cp := ⟨by simp [go_sem], by simp [go_sem], by simp [go_sem], by simp [go_sem], by simp [go_sem]⟩
  have kz : w.heap.size + 1 ≤ (w.alloc (.cells #[.int .i64 t.op, .int .i64 t.a, .int .i64 t.b, .string t.s, .slice ad t.n cp] 50)).heap.size := by simp
  replace HI := hide ((unhide HI).later (BL.mono hhi))
  replace HD := hide ((unhide HD).later BL)
  have kb := Nat.lt_of_lt_of_le hbd BL.size
  generalize (w.alloc (.cells #[.int .i64 t.op, .int .i64 t.a, .int .i64 t.b, .string t.s, .slice ad t.n cp] 50)) = wa at *
  refine wp_region_held_drew (S := (fun w' => w'.cell? ⟨w.heap.size, 0, none⟩ = some (.int .i64 t.op) ∧ w'.cell? ⟨w.heap.size, 1, none⟩ = some (.int .i64 t.a) ∧ w'.cell? ⟨w.heap.size, 2, none⟩ = some (.int .i64 t.b) ∧ w'.cell? ⟨w.heap.size, 3, none⟩ = some (.string t.s) ∧ w'.cell? ⟨w.heap.size, 4, none⟩ = some (.slice ad t.n cp))) (by kernel_rfl) ?_ (fun hHeld => ?_)
  · exact ⟨P.1, P.2.1, P.2.2.1, P.2.2.2.1, P.2.2.2.2⟩
  replace P : Five wa.drew w.heap.size 0 t ad cp := P
  replace HI := hide (unhide HI).drew
  replace HD : Hid (Decs wa.drew bd offd n S V) := HD
  replace BL : Below w.heap.size w wa.drew := BL.drew
  replace kb : bd < wa.drew.heap.size := kb
  replace kz : w.heap.size + 1 ≤ wa.drew.heap.size := kz
  generalize wa.drew = wb at *
  refine wpAnyH_take (i := 0) (v := ?_) rfl (by kernel_rfl) (by kernel_rfl) (by kernel_rfl) (fun _ _ _ h => h) (Or.inl ⟨by rfl, ?_⟩) (by assumption) ?_
  rotate_left
  · (intro w hSw; (try dsimp only at hSw); first | (go_simp; done) | (go_simp; with_reducible rfl))
  try simp only [List.getElem_toArray, List.getElem_cons_succ, List.getElem_cons_zero, Act.put, List.setIfInBounds_toArray, List.set_cons_zero, List.set_cons_succ]
  refine wpAnyH_take (i := 1) (v := ?_) rfl (by kernel_rfl) (by kernel_rfl) (by kernel_rfl) (fun _ _ _ h => h) (Or.inl ⟨by rfl, ?_⟩) (by assumption) ?_
  rotate_left
  · (intro w hSw; (try dsimp only at hSw); first | (go_simp; done) | (go_simp; with_reducible rfl))
  try simp only [List.getElem_toArray, List.getElem_cons_succ, List.getElem_cons_zero, Act.put, List.setIfInBounds_toArray, List.set_cons_zero, List.set_cons_succ]
  refine wpAnyH_take (i := 2) (v := ?_) rfl (by kernel_rfl) (by kernel_rfl) (by kernel_rfl) (fun _ _ _ h => h) (Or.inl ⟨by rfl, ?_⟩) (by assumption) ?_
  rotate_left
  · (intro w hSw; (try dsimp only at hSw); first | (go_simp; done) | (go_simp; with_reducible rfl))
  try simp only [List.getElem_toArray, List.getElem_cons_succ, List.getElem_cons_zero, Act.put, List.setIfInBounds_toArray, List.set_cons_zero, List.set_cons_succ]
  refine wpAnyH_take (i := 3) (v := ?_) rfl (by kernel_rfl) (by kernel_rfl) (by kernel_rfl) (fun _ _ _ h => h) (Or.inl ⟨by rfl, ?_⟩) (by assumption) ?_
  rotate_left
  · (intro w hSw; (try dsimp only at hSw); first | (go_simp; done) | (go_simp; with_reducible rfl))
  try simp only [List.getElem_toArray, List.getElem_cons_succ, List.getElem_cons_zero, Act.put, List.setIfInBounds_toArray, List.set_cons_zero, List.set_cons_succ]
  refine wpAnyH_ready (rs := [4, 9]) (by kernel_rfl) (by simp) ?_
  refine AllReadyH.cons rfl (fun K hK => ?_) (AllReadyH.cons rfl (fun K hK => ?_) AllReadyH.nil)
  · go_simp
    obtain ⟨wn1, hwn1⟩ : ∃ v, v = wb.alloc (.cells (madeCells #[.int .i64 0] n) 3) := ⟨_, rfl⟩
    have bwn1 : Below wb.heap.size wb wn1 := by rw [hwn1]; exact (Below.refl _ _).alloc (Nat.le_refl _) _
    have ROW : Ints wn1 wb.heap.size 0 n (fun _ => 0) := by rw [hwn1]; exact zeros_new _ _ _
    have lrow : wb.heap.size < wn1.heap.size := by rw [hwn1]; simp
    obtain ⟨RB, hRB⟩ : ∃ v, v = wb.heap.size := ⟨_, rfl⟩
    rw [← hwn1]
    replace P := P.later bwn1
    replace HI := hide ((unhide HI).later (bwn1.mono (by omega)))
    replace HD := hide ((unhide HD).later bwn1)
    replace kb := Nat.lt_of_lt_of_le kb bwn1.size
    replace BL := BL.trans (bwn1.mono (by omega))
    replace kz := Nat.le_trans kz bwn1.size
    clear bwn1
    rw [← hRB] at ROW lrow
    rw [← hRB]
    clear hRB hwn1
    refine hK.out _ _ ?_ (fun hHeld => ?_)
    · exact ⟨P.1, P.2.1, P.2.2.1, P.2.2.2.1, P.2.2.2.2⟩
    clear hK K
    try simp only [List.getElem_toArray, List.getElem_cons_succ, List.getElem_cons_zero, Act.put, List.setIfInBounds_toArray, List.set_cons_zero, List.set_cons_succ]
    refine wpAnyH_ready (rs := [5, 9]) (by kernel_rfl) (by simp) ?_
    refine AllReadyH.cons rfl (fun K hK => ?_) (AllReadyH.cons rfl (fun K hK => ?_) AllReadyH.nil)
    · go_simp
      refine (termWorthD_any bd offd n cap RB 0 n n hi S V (fun _ => 0) hn hnc hn (unhide HS) t _ _ _ (unhide HI) (unhide HF) (by omega) kb (unhide HD) lrow ROW hda).mono ?_
      rintro e wt ⟨⟨x, y, r, rfl, hA, hN⟩, bt⟩
      have HA := hide hA
      have HN := hide hN
      clear hA hN
      replace P := P.later bt
      replace HI := hide ((unhide HI).later (bt.mono (by omega)))
      replace HD := hide ((unhide HD).later bt)
      replace kb := Nat.lt_of_lt_of_le kb bt.size
      replace BL := BL.trans (bt.mono (by omega))
      replace ROW := ROW.later bt
      replace lrow := Nat.lt_of_lt_of_le lrow bt.size
      replace kz := Nat.le_trans kz bt.size
      clear bt
      go_wp2_with fail
      refine hK.out _ _ ?_ (fun hHeld => ?_)
      · exact ⟨P.1, P.2.1, P.2.2.1, P.2.2.2.1, P.2.2.2.2⟩
      clear hK K
      try simp only [List.getElem_toArray, List.getElem_cons_succ, List.getElem_cons_zero, Act.put, List.setIfInBounds_toArray, List.set_cons_zero, List.set_cons_succ]
      refine wpAnyH_take (i := 6) (v := ?_) rfl (by kernel_rfl) (by kernel_rfl) (by kernel_rfl) (fun _ _ _ h => h) (Or.inl ⟨by rfl, ?_⟩) (by assumption) ?_
      rotate_left
      · (intro w hSw; (try dsimp only at hSw); first | (go_simp; done) | (go_simp; with_reducible rfl))
      try simp only [List.getElem_toArray, List.getElem_cons_succ, List.getElem_cons_zero, Act.put, List.setIfInBounds_toArray, List.set_cons_zero, List.set_cons_succ]
      refine wpAnyH_take (i := 7) (v := ?_) rfl (by kernel_rfl) (by kernel_rfl) (by kernel_rfl) (fun _ _ _ h => h) (Or.inl ⟨by rfl, ?_⟩) (by assumption) ?_
      rotate_left
      · (intro w hSw; (try dsimp only at hSw); first | (go_simp; done) | (go_simp; with_reducible rfl))
      try simp only [List.getElem_toArray, List.getElem_cons_succ, List.getElem_cons_zero, Act.put, List.setIfInBounds_toArray, List.set_cons_zero, List.set_cons_succ]
      refine wpAnyH_take (i := 8) (v := ?_) rfl (by kernel_rfl) (by kernel_rfl) (by kernel_rfl) (fun _ _ _ h => h) (Or.inl ⟨by rfl, ?_⟩) (by assumption) ?_
      rotate_left
      · (intro w hSw; (try dsimp only at hSw); first | (go_simp; done) | (go_simp; with_reducible rfl))
      try simp only [List.getElem_toArray, List.getElem_cons_succ, List.getElem_cons_zero, Act.put, List.setIfInBounds_toArray, List.set_cons_zero, List.set_cons_succ]
      refine wpAnyH_ready (rs := [9]) (by kernel_rfl) (by simp) ?_
      refine AllReadyH.cons rfl (fun K hK => ?_) AllReadyH.nil
      go_simp
      obtain ⟨wn2, hwn2⟩ : ∃ v, v = wt.alloc (.cells #[.int .i64 0, .int .i64 0] 107) := ⟨_, rfl⟩
      have bwn2 : Below wt.heap.size wt wn2 := by rw [hwn2]; exact (Below.refl _ _).alloc (Nat.le_refl _) _
      have i0 : wn2.cell? ⟨wt.heap.size, 0, none⟩ = some (.int .i64 0) := by rw [hwn2]; simp [go_sem]
      have i1 : wn2.cell? ⟨wt.heap.size, 1, none⟩ = some (.int .i64 0) := by rw [hwn2]; simp [go_sem]
      have j0 : wn2.frozen? ⟨wt.heap.size, 0, none⟩ = false := by rw [hwn2]; simp [go_sem]
      have j1 : wn2.frozen? ⟨wt.heap.size, 1, none⟩ = false := by rw [hwn2]; simp [go_sem]
      obtain ⟨IB, hIB⟩ : ∃ v, v = wt.heap.size := ⟨_, rfl⟩
      have nIB : ¬ wt.heap.size = w.heap.size := by omega
      have lIB : w.heap.size < wt.heap.size := by omega
      rw [← hwn2]
      replace P := P.later bwn2
      replace HI := hide ((unhide HI).later (bwn2.mono (by omega)))
      replace HD := hide ((unhide HD).later bwn2)
      replace kb := Nat.lt_of_lt_of_le kb bwn2.size
      replace BL := BL.trans (bwn2.mono (by omega))
      replace ROW := ROW.later bwn2
      replace lrow := Nat.lt_of_lt_of_le lrow bwn2.size
      replace kz := Nat.le_trans kz bwn2.size
      clear bwn2
      rw [← hIB] at i0 i1 j0 j1 nIB lIB
      rw [← hIB]
      clear hIB hwn2
      refine hK.out _ _ ?_ (fun hHeld => ?_)
      · exact ⟨P.1, P.2.1, P.2.2.1, P.2.2.2.1, P.2.2.2.2⟩
      clear hK K
      try simp only [List.getElem_toArray, List.getElem_cons_succ, List.getElem_cons_zero, Act.put, List.setIfInBounds_toArray, List.set_cons_zero, List.set_cons_succ]
      refine wpAnyH_ready (rs := [10]) (by kernel_rfl) (by simp) ?_
      refine AllReadyH.cons rfl (fun K hK => ?_) AllReadyH.nil
      go_simp
      refine hK.out _ _ ?_ (fun hHeld => ?_)
      · (simp only [World.cell?_setCell_far, nIB, ne_eq, not_false_eq_true]; exact ⟨P.1, P.2.1, P.2.2.1, P.2.2.2.1, P.2.2.2.2⟩)
      clear hK K
      try simp only [List.getElem_toArray, List.getElem_cons_succ, List.getElem_cons_zero, Act.put, List.setIfInBounds_toArray, List.set_cons_zero, List.set_cons_succ]
      refine wpAnyH_take (i := 11) (v := ?_) rfl (by kernel_rfl) (by kernel_rfl) (by kernel_rfl) (fun _ _ _ h => h) (Or.inl ⟨by rfl, ?_⟩) (by assumption) ?_
      rotate_left
      · (intro w hSw; (try dsimp only at hSw); first | (go_simp; done) | (go_simp; with_reducible rfl))
      try simp only [List.getElem_toArray, List.getElem_cons_succ, List.getElem_cons_zero, Act.put, List.setIfInBounds_toArray, List.set_cons_zero, List.set_cons_succ]
      refine wpAnyH_done (by kernel_rfl) ?_ _
      cases r
      · have HE : Hid (tsort n S V t = -1) := by
          by_cases hR : RightAll n n S V (fun _ => 0) t
          · rw [show tsort n S V t = t.sort n S V from tsort_yes ⟨env_zero.1 hR.2, hR.1⟩]
            exact (unhide HA hR).2 rfl
          · exact tsort_no (fun h => hR ⟨h.2, env_zero.2 h.1⟩)
        clear HA HN
        go_wp2
        rw [unhide HE]
        go_ret
        exact ⟨rfl, (BL.setCell (by simp only; omega) _).setCell (by simp only; omega) _⟩
      · have HE : Hid (tsort n S V t = x) := by
          by_cases hR : RightAll n n S V (fun _ => 0) t
          · rw [show tsort n S V t = t.sort n S V from tsort_yes ⟨env_zero.1 hR.2, hR.1⟩]
            exact ((unhide HA hR).1 rfl).1.symm
          · have := unhide HN hR
            cases this
        clear HA HN
        go_wp2
        rw [unhide HE]
        go_ret
        exact ⟨rfl, (BL.setCell (by simp only; omega) _).setCell (by simp only; omega) _⟩
    · go_simp
      obtain ⟨wn2, hwn2⟩ : ∃ v, v = wn1.alloc (.cells #[.int .i64 0, .int .i64 0] 107) := ⟨_, rfl⟩
      have bwn2 : Below wn1.heap.size wn1 wn2 := by rw [hwn2]; exact (Below.refl _ _).alloc (Nat.le_refl _) _
      have i0 : wn2.cell? ⟨wn1.heap.size, 0, none⟩ = some (.int .i64 0) := by rw [hwn2]; simp [go_sem]
      have i1 : wn2.cell? ⟨wn1.heap.size, 1, none⟩ = some (.int .i64 0) := by rw [hwn2]; simp [go_sem]
      have j0 : wn2.frozen? ⟨wn1.heap.size, 0, none⟩ = false := by rw [hwn2]; simp [go_sem]
      have j1 : wn2.frozen? ⟨wn1.heap.size, 1, none⟩ = false := by rw [hwn2]; simp [go_sem]
      obtain ⟨IB, hIB⟩ : ∃ v, v = wn1.heap.size := ⟨_, rfl⟩
      have nIB : ¬ wn1.heap.size = w.heap.size := by omega
      have lIB : w.heap.size < wn1.heap.size := by omega
      rw [← hwn2]
      replace P := P.later bwn2
      replace HI := hide ((unhide HI).later (bwn2.mono (by omega)))
      replace HD := hide ((unhide HD).later bwn2)
      replace kb := Nat.lt_of_lt_of_le kb bwn2.size
      replace BL := BL.trans (bwn2.mono (by omega))
      replace ROW := ROW.later bwn2
      replace lrow := Nat.lt_of_lt_of_le lrow bwn2.size
      replace kz := Nat.le_trans kz bwn2.size
      clear bwn2
      rw [← hIB] at i0 i1 j0 j1 nIB lIB
      rw [← hIB]
      clear hIB hwn2
      refine hK.out _ _ ?_ (fun hHeld => ?_)
      · exact ⟨P.1, P.2.1, P.2.2.1, P.2.2.2.1, P.2.2.2.2⟩
      clear hK K
      try simp only [List.getElem_toArray, List.getElem_cons_succ, List.getElem_cons_zero, Act.put, List.setIfInBounds_toArray, List.set_cons_zero, List.set_cons_succ]
      refine wpAnyH_ready (rs := [5]) (by kernel_rfl) (by simp) ?_
      refine AllReadyH.cons rfl (fun K hK => ?_) AllReadyH.nil
      go_simp
      refine (termWorthD_any bd offd n cap RB 0 n n hi S V (fun _ => 0) hn hnc hn (unhide HS) t _ _ _ (unhide HI) (unhide HF) (by omega) kb (unhide HD) lrow ROW hda).mono ?_
      rintro e wt ⟨⟨x, y, r, rfl, hA, hN⟩, bt⟩
      have HA := hide hA
      have HN := hide hN
      clear hA hN
      replace P := P.later bt
      replace HI := hide ((unhide HI).later (bt.mono (by omega)))
      replace HD := hide ((unhide HD).later bt)
      replace kb := Nat.lt_of_lt_of_le kb bt.size
      replace BL := BL.trans (bt.mono (by omega))
      replace ROW := ROW.later bt
      replace lrow := Nat.lt_of_lt_of_le lrow bt.size
      replace j0 := fz_later bt i0 j0
      replace j1 := fz_later bt i1 j1
      replace i0 := cell_later bt i0
      replace i1 := cell_later bt i1
      replace kz := Nat.le_trans kz bt.size
      clear bt
      go_wp2_with fail
      refine hK.out _ _ ?_ (fun hHeld => ?_)
      · exact ⟨P.1, P.2.1, P.2.2.1, P.2.2.2.1, P.2.2.2.2⟩
      clear hK K
      try simp only [List.getElem_toArray, List.getElem_cons_succ, List.getElem_cons_zero, Act.put, List.setIfInBounds_toArray, List.set_cons_zero, List.set_cons_succ]
      refine wpAnyH_take (i := 6) (v := ?_) rfl (by kernel_rfl) (by kernel_rfl) (by kernel_rfl) (fun _ _ _ h => h) (Or.inl ⟨by rfl, ?_⟩) (by assumption) ?_
      rotate_left
      · (intro w hSw; (try dsimp only at hSw); first | (go_simp; done) | (go_simp; with_reducible rfl))
      try simp only [List.getElem_toArray, List.getElem_cons_succ, List.getElem_cons_zero, Act.put, List.setIfInBounds_toArray, List.set_cons_zero, List.set_cons_succ]
      refine wpAnyH_take (i := 7) (v := ?_) rfl (by kernel_rfl) (by kernel_rfl) (by kernel_rfl) (fun _ _ _ h => h) (Or.inl ⟨by rfl, ?_⟩) (by assumption) ?_
      rotate_left
      · (intro w hSw; (try dsimp only at hSw); first | (go_simp; done) | (go_simp; with_reducible rfl))
      try simp only [List.getElem_toArray, List.getElem_cons_succ, List.getElem_cons_zero, Act.put, List.setIfInBounds_toArray, List.set_cons_zero, List.set_cons_succ]
      refine wpAnyH_take (i := 8) (v := ?_) rfl (by kernel_rfl) (by kernel_rfl) (by kernel_rfl) (fun _ _ _ h => h) (Or.inl ⟨by rfl, ?_⟩) (by assumption) ?_
      rotate_left
      · (intro w hSw; (try dsimp only at hSw); first | (go_simp; done) | (go_simp; with_reducible rfl))
      try simp only [List.getElem_toArray, List.getElem_cons_succ, List.getElem_cons_zero, Act.put, List.setIfInBounds_toArray, List.set_cons_zero, List.set_cons_succ]
      refine wpAnyH_ready (rs := [10]) (by kernel_rfl) (by simp) ?_
      refine AllReadyH.cons rfl (fun K hK => ?_) AllReadyH.nil
      go_simp
      refine hK.out _ _ ?_ (fun hHeld => ?_)
      · (simp only [World.cell?_setCell_far, nIB, ne_eq, not_false_eq_true]; exact ⟨P.1, P.2.1, P.2.2.1, P.2.2.2.1, P.2.2.2.2⟩)
      clear hK K
      try simp only [List.getElem_toArray, List.getElem_cons_succ, List.getElem_cons_zero, Act.put, List.setIfInBounds_toArray, List.set_cons_zero, List.set_cons_succ]
      refine wpAnyH_take (i := 11) (v := ?_) rfl (by kernel_rfl) (by kernel_rfl) (by kernel_rfl) (fun _ _ _ h => h) (Or.inl ⟨by rfl, ?_⟩) (by assumption) ?_
      rotate_left
      · (intro w hSw; (try dsimp only at hSw); first | (go_simp; done) | (go_simp; with_reducible rfl))
      try simp only [List.getElem_toArray, List.getElem_cons_succ, List.getElem_cons_zero, Act.put, List.setIfInBounds_toArray, List.set_cons_zero, List.set_cons_succ]
      refine wpAnyH_done (by kernel_rfl) ?_ _
      cases r
      · have HE : Hid (tsort n S V t = -1) := by
          by_cases hR : RightAll n n S V (fun _ => 0) t
          · rw [show tsort n S V t = t.sort n S V from tsort_yes ⟨env_zero.1 hR.2, hR.1⟩]
            exact (unhide HA hR).2 rfl
          · exact tsort_no (fun h => hR ⟨h.2, env_zero.2 h.1⟩)
        clear HA HN
        go_wp2
        rw [unhide HE]
        go_ret
        exact ⟨rfl, (BL.setCell (by simp only; omega) _).setCell (by simp only; omega) _⟩
      · have HE : Hid (tsort n S V t = x) := by
          by_cases hR : RightAll n n S V (fun _ => 0) t
          · rw [show tsort n S V t = t.sort n S V from tsort_yes ⟨env_zero.1 hR.2, hR.1⟩]
            exact ((unhide HA hR).1 rfl).1.symm
          · have := unhide HN hR
            cases this
        clear HA HN
        go_wp2
        rw [unhide HE]
        go_ret
        exact ⟨rfl, (BL.setCell (by simp only; omega) _).setCell (by simp only; omega) _⟩
  · go_simp
    obtain ⟨wn1, hwn1⟩ : ∃ v, v = wb.alloc (.cells #[.int .i64 0, .int .i64 0] 107) := ⟨_, rfl⟩
    have bwn1 : Below wb.heap.size wb wn1 := by rw [hwn1]; exact (Below.refl _ _).alloc (Nat.le_refl _) _
    have i0 : wn1.cell? ⟨wb.heap.size, 0, none⟩ = some (.int .i64 0) := by rw [hwn1]; simp [go_sem]
    have i1 : wn1.cell? ⟨wb.heap.size, 1, none⟩ = some (.int .i64 0) := by rw [hwn1]; simp [go_sem]
    have j0 : wn1.frozen? ⟨wb.heap.size, 0, none⟩ = false := by rw [hwn1]; simp [go_sem]
    have j1 : wn1.frozen? ⟨wb.heap.size, 1, none⟩ = false := by rw [hwn1]; simp [go_sem]
    obtain ⟨IB, hIB⟩ : ∃ v, v = wb.heap.size := ⟨_, rfl⟩
    have nIB : ¬ wb.heap.size = w.heap.size := by omega
    have lIB : w.heap.size < wb.heap.size := by omega
    rw [← hwn1]
    replace P := P.later bwn1
    replace HI := hide ((unhide HI).later (bwn1.mono (by omega)))
    replace HD := hide ((unhide HD).later bwn1)
    replace kb := Nat.lt_of_lt_of_le kb bwn1.size
    replace BL := BL.trans (bwn1.mono (by omega))
    replace kz := Nat.le_trans kz bwn1.size
    clear bwn1
    rw [← hIB] at i0 i1 j0 j1 nIB lIB
    rw [← hIB]
    clear hIB hwn1
    refine hK.out _ _ ?_ (fun hHeld => ?_)
    · exact ⟨P.1, P.2.1, P.2.2.1, P.2.2.2.1, P.2.2.2.2⟩
    clear hK K
    try simp only [List.getElem_toArray, List.getElem_cons_succ, List.getElem_cons_zero, Act.put, List.setIfInBounds_toArray, List.set_cons_zero, List.set_cons_succ]
    refine wpAnyH_ready (rs := [4]) (by kernel_rfl) (by simp) ?_
    refine AllReadyH.cons rfl (fun K hK => ?_) AllReadyH.nil
    go_simp
    obtain ⟨wn2, hwn2⟩ : ∃ v, v = wn1.alloc (.cells (madeCells #[.int .i64 0] n) 3) := ⟨_, rfl⟩
    have bwn2 : Below wn1.heap.size wn1 wn2 := by rw [hwn2]; exact (Below.refl _ _).alloc (Nat.le_refl _) _
    have ROW : Ints wn2 wn1.heap.size 0 n (fun _ => 0) := by rw [hwn2]; exact zeros_new _ _ _
    have lrow : wn1.heap.size < wn2.heap.size := by rw [hwn2]; simp
    obtain ⟨RB, hRB⟩ : ∃ v, v = wn1.heap.size := ⟨_, rfl⟩
    rw [← hwn2]
    replace P := P.later bwn2
    replace HI := hide ((unhide HI).later (bwn2.mono (by omega)))
    replace HD := hide ((unhide HD).later bwn2)
    replace kb := Nat.lt_of_lt_of_le kb bwn2.size
    replace BL := BL.trans (bwn2.mono (by omega))
    replace j0 := fz_later bwn2 i0 j0
    replace j1 := fz_later bwn2 i1 j1
    replace i0 := cell_later bwn2 i0
    replace i1 := cell_later bwn2 i1
    replace kz := Nat.le_trans kz bwn2.size
    clear bwn2
    rw [← hRB] at ROW lrow
    rw [← hRB]
    clear hRB hwn2
    refine hK.out _ _ ?_ (fun hHeld => ?_)
    · exact ⟨P.1, P.2.1, P.2.2.1, P.2.2.2.1, P.2.2.2.2⟩
    clear hK K
    try simp only [List.getElem_toArray, List.getElem_cons_succ, List.getElem_cons_zero, Act.put, List.setIfInBounds_toArray, List.set_cons_zero, List.set_cons_succ]
    refine wpAnyH_ready (rs := [5]) (by kernel_rfl) (by simp) ?_
    refine AllReadyH.cons rfl (fun K hK => ?_) AllReadyH.nil
    go_simp
    refine (termWorthD_any bd offd n cap RB 0 n n hi S V (fun _ => 0) hn hnc hn (unhide HS) t _ _ _ (unhide HI) (unhide HF) (by omega) kb (unhide HD) lrow ROW hda).mono ?_
    rintro e wt ⟨⟨x, y, r, rfl, hA, hN⟩, bt⟩
    have HA := hide hA
    have HN := hide hN
    clear hA hN
    replace P := P.later bt
    replace HI := hide ((unhide HI).later (bt.mono (by omega)))
    replace HD := hide ((unhide HD).later bt)
    replace kb := Nat.lt_of_lt_of_le kb bt.size
    replace BL := BL.trans (bt.mono (by omega))
    replace ROW := ROW.later bt
    replace lrow := Nat.lt_of_lt_of_le lrow bt.size
    replace j0 := fz_later bt i0 j0
    replace j1 := fz_later bt i1 j1
    replace i0 := cell_later bt i0
    replace i1 := cell_later bt i1
    replace kz := Nat.le_trans kz bt.size
    clear bt
    go_wp2_with fail
    refine hK.out _ _ ?_ (fun hHeld => ?_)
    · exact ⟨P.1, P.2.1, P.2.2.1, P.2.2.2.1, P.2.2.2.2⟩
    clear hK K
    try simp only [List.getElem_toArray, List.getElem_cons_succ, List.getElem_cons_zero, Act.put, List.setIfInBounds_toArray, List.set_cons_zero, List.set_cons_succ]
    refine wpAnyH_take (i := 6) (v := ?_) rfl (by kernel_rfl) (by kernel_rfl) (by kernel_rfl) (fun _ _ _ h => h) (Or.inl ⟨by rfl, ?_⟩) (by assumption) ?_
    rotate_left
    · (intro w hSw; (try dsimp only at hSw); first | (go_simp; done) | (go_simp; with_reducible rfl))
    try simp only [List.getElem_toArray, List.getElem_cons_succ, List.getElem_cons_zero, Act.put, List.setIfInBounds_toArray, List.set_cons_zero, List.set_cons_succ]
    refine wpAnyH_take (i := 7) (v := ?_) rfl (by kernel_rfl) (by kernel_rfl) (by kernel_rfl) (fun _ _ _ h => h) (Or.inl ⟨by rfl, ?_⟩) (by assumption) ?_
    rotate_left
    · (intro w hSw; (try dsimp only at hSw); first | (go_simp; done) | (go_simp; with_reducible rfl))
    try simp only [List.getElem_toArray, List.getElem_cons_succ, List.getElem_cons_zero, Act.put, List.setIfInBounds_toArray, List.set_cons_zero, List.set_cons_succ]
    refine wpAnyH_take (i := 8) (v := ?_) rfl (by kernel_rfl) (by kernel_rfl) (by kernel_rfl) (fun _ _ _ h => h) (Or.inl ⟨by rfl, ?_⟩) (by assumption) ?_
    rotate_left
    · (intro w hSw; (try dsimp only at hSw); first | (go_simp; done) | (go_simp; with_reducible rfl))
    try simp only [List.getElem_toArray, List.getElem_cons_succ, List.getElem_cons_zero, Act.put, List.setIfInBounds_toArray, List.set_cons_zero, List.set_cons_succ]
    refine wpAnyH_ready (rs := [10]) (by kernel_rfl) (by simp) ?_
    refine AllReadyH.cons rfl (fun K hK => ?_) AllReadyH.nil
    go_simp
    refine hK.out _ _ ?_ (fun hHeld => ?_)
    · (simp only [World.cell?_setCell_far, nIB, ne_eq, not_false_eq_true]; exact ⟨P.1, P.2.1, P.2.2.1, P.2.2.2.1, P.2.2.2.2⟩)
    clear hK K
    try simp only [List.getElem_toArray, List.getElem_cons_succ, List.getElem_cons_zero, Act.put, List.setIfInBounds_toArray, List.set_cons_zero, List.set_cons_succ]
    refine wpAnyH_take (i := 11) (v := ?_) rfl (by kernel_rfl) (by kernel_rfl) (by kernel_rfl) (fun _ _ _ h => h) (Or.inl ⟨by rfl, ?_⟩) (by assumption) ?_
    rotate_left
    · (intro w hSw; (try dsimp only at hSw); first | (go_simp; done) | (go_simp; with_reducible rfl))
    try simp only [List.getElem_toArray, List.getElem_cons_succ, List.getElem_cons_zero, Act.put, List.setIfInBounds_toArray, List.set_cons_zero, List.set_cons_succ]
    refine wpAnyH_done (by kernel_rfl) ?_ _
    cases r
    · have HE : Hid (tsort n S V t = -1) := by
        by_cases hR : RightAll n n S V (fun _ => 0) t
        · rw [show tsort n S V t = t.sort n S V from tsort_yes ⟨env_zero.1 hR.2, hR.1⟩]
          exact (unhide HA hR).2 rfl
        · exact tsort_no (fun h => hR ⟨h.2, env_zero.2 h.1⟩)
      clear HA HN
      go_wp2
      rw [unhide HE]
      go_ret
      exact ⟨rfl, (BL.setCell (by simp only; omega) _).setCell (by simp only; omega) _⟩
    · have HE : Hid (tsort n S V t = x) := by
        by_cases hR : RightAll n n S V (fun _ => 0) t
        · rw [show tsort n S V t = t.sort n S V from tsort_yes ⟨env_zero.1 hR.2, hR.1⟩]
          exact ((unhide HA hR).1 rfl).1.symm
        · have := unhide HN hR
          cases this
      clear HA HN
      go_wp2
      rw [unhide HE]
      go_ret
      exact ⟨rfl, (BL.setCell (by simp only; omega) _).setCell (by simp only; omega) _⟩
end Go.Proofs.YtfopmobopmdahaaGreat
