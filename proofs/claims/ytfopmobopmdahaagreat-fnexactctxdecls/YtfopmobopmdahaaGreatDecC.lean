/- Names: which are right, of the program. -/
import Derived.Test.YtfopmobopmdahaaGreatDecB
namespace Go.Proofs.YtfopmobopmdahaaGreat
open Go.ChangeShapes Go.WideShapes Go.ChangeAt Go.RowKit Go.Joins
set_option linter.unusedVariables false

set_option maxRecDepth 100000 in
set_option maxHeartbeats 2000000 in
theorem iDeclOk_any (b off n cap : Nat) (S : Nat → ByteArray) (V : Nat → Int) (w : World) (hb : b < w.heap.size) (hd : Decs w b off n S V) (hnc : n ≤ cap) (hn : n ≤ 1048576) (hs : ∀ i, i < n → (S i).size ≤ 1048576) :
    Calls Tryz.prog 70 #[.slice (some ⟨b, off, none⟩) n cap] w fun e w' => e = .returned (.bool (declB n S V)) ∧ Below w.heap.size w w' := by
  have HD := hide hd
  have HS := hide hs
  clear hd hs
  by_cases h4 : n ≤ 4
  · go_enter Tryz.func70, Tryz.ntmps70
    go_wp2
    go_loopw [3, 13] (fun s i wr => ∃ k : Nat, k ≤ n ∧ i = .int .i64 k ∧ s = .int .i64 (sumV V k) ∧ (∀ j, j < k → AtP S V j) ∧ Below w.heap.size w wr) (fun _ i _ => n - (intOf i).toNat)
    case atStart => exact ⟨0, by omega, rfl, rfl, fun j hj => by omega, (by repeat (first | exact Below.refl _ _ | assumption | refine below_drewN ?_ _ | refine Below.drew ?_ | refine Below.alloc ?_ (by first | exact Nat.le_refl _ | exact Below.size (by assumption) | (simp; done) | (simp; omega)) _ | refine Below.setCell ?_ (by first | exact Nat.le_refl _ | exact Below.size (by assumption) | (simp; done) | (simp; omega)) _ | refine Below.trans ?_ (by assumption)))⟩
    case round =>
      obtain ⟨k, hk, rfl, rfl, hlo, hbel⟩ := hrel
      have HL := hide hlo
      have hsb := sumV_bd (V := V) (k := k) (fun i hi => ⟨(hlo i hi).2.1, (hlo i hi).2.2.1⟩)
      obtain ⟨hs0, hs1⟩ := hsb
      clear hlo
      have HU := hide (show sumV V (k + 1) = sumV V k + V k from rfl)
      by_cases hlt : k < n
      · obtain ⟨c0, c1⟩ := unhide HD k hlt
        have d0 := (hbel.cell (p := ⟨b, off + k * 2, none⟩) hb).trans c0
        have d1 := (hbel.cell (p := ⟨b, off + k * 2 + 1, none⟩) hb).trans c1
        clear c0 c1
        have hsk := unhide HS k hlt
        go_wp2_with fail
        refine (nameOk_any _ _ hsk).mono ?_
        rintro e w1 ⟨rfl, b1⟩
        have p0 : w1.cell? ⟨wr.heap.size, 0, none⟩ = some (.string (S k)) := cell_later b1 (by simp [go_sem])
        have p1 : w1.cell? ⟨wr.heap.size, 1, none⟩ = some (.int .i64 (V k)) := cell_later b1 (by simp [go_sem])
        have pl := World.block_lt_of_cell? _ _ p0
        have BL : Below w.heap.size w w1 := Below.trans ((by repeat (first | exact Below.refl _ _ | assumption | refine below_drewN ?_ _ | refine Below.drew ?_ | refine Below.alloc ?_ (by first | exact Nat.le_refl _ | exact Below.size (by assumption) | (simp; done) | (simp; omega)) _ | refine Below.setCell ?_ (by first | exact Nat.le_refl _ | exact Below.size (by assumption) | (simp; done) | (simp; omega)) _ | refine Below.trans ?_ (by assumption)))) (b1.mono (by have := hbel.size; simp; omega))
        clear b1 d0 d1
        by_cases g1 : NameP (S k)
        · have n1 := nameB_yes g1
          by_cases g2 : 1 ≤ V k
          · have m2 : decide (V k < 1) = false := by simp; omega
            by_cases g3 : V k ≤ 4
            · have m3 : decide (4 < V k) = false := by simp; omega
              have HG := hide g1
              clear g1
              go_wp2
              generalize wr.heap.size = B at *
              go_loopw [36] (fun i w2 => ∃ j : Nat, j ≤ k ∧ i = .int .i64 j ∧ (∀ q, q < j → (S q).toList ≠ (S k).toList) ∧ Below w1.heap.size w1 w2) (fun i _ => k - (intOf i).toNat)
              case atStart => exact ⟨0, by omega, rfl, fun q hq => by omega, Below.refl _ _⟩
              case round =>
                obtain ⟨j, hj, rfl, hq, hb2⟩ := hrel
                have HQ := hide hq
                clear hq
                have P0 := (hb2.cell (p := ⟨B, 0, none⟩) pl).trans p0
                have P1 := (hb2.cell (p := ⟨B, 1, none⟩) pl).trans p1
                have hBw : B < wr.heap.size := Nat.lt_of_lt_of_le pl hb2.size
                have hBn : B ≠ wr.heap.size := by omega
                have hbw := Nat.lt_of_lt_of_le hb (Nat.le_trans BL.size hb2.size)
                have BJ := BL.trans (hb2.mono BL.size)
                by_cases hjk : j < k
                · obtain ⟨c0, c1⟩ := unhide HD j (by omega)
                  have d0 := (BJ.cell (p := ⟨b, off + j * 2, none⟩) hb).trans c0
                  have d1 := (BJ.cell (p := ⟨b, off + j * 2 + 1, none⟩) hb).trans c1
                  clear c0 c1
                  by_cases he : (S j).toList = (S k).toList
                  · have heb : ((S j).toList == (S k).toList) = true := by simp [he]
                    have HN := hide (declB_no (n := n) (S := S) (V := V) (fun h => (h.2.1 k hlt).2.2.2 j hjk he))
                    clear he
                    go_wp2
                    rw [unhide HN]
                    go_ret
                    exact ⟨rfl, (by repeat (first | exact Below.refl _ _ | assumption | refine below_drewN ?_ _ | refine Below.drew ?_ | refine Below.alloc ?_ (by first | exact Nat.le_refl _ | exact Below.size (by assumption) | (simp; done) | (simp; omega)) _ | refine Below.setCell ?_ (by first | exact Nat.le_refl _ | exact Below.size (by assumption) | (simp; done) | (simp; omega)) _ | refine Below.trans ?_ (by assumption)))⟩
                  · have heb : ((S j).toList == (S k).toList) = false := by simp [he]
                    have HE := hide he
                    clear he
                    go_wp2
                    go_roundw
                    case rel =>
                      refine ⟨j + 1, by omega, by go_num, ?_, (by repeat (first | exact Below.refl _ _ | assumption | refine below_drewN ?_ _ | refine Below.drew ?_ | refine Below.alloc ?_ (by first | exact Nat.le_refl _ | exact Below.size (by assumption) | (simp; done) | (simp; omega)) _ | refine Below.setCell ?_ (by first | exact Nat.le_refl _ | exact Below.size (by assumption) | (simp; done) | (simp; omega)) _ | refine Below.trans ?_ (by assumption)))⟩
                      intro q hq
                      by_cases e : q = j
                      · subst e; exact unhide HE
                      · exact unhide HQ q (by omega)
                    case measure => simp [intOf]; omega
                · have ejk : j = k := by omega
                  have HA : Hid (AtP S V k) := ⟨unhide HG, g2, g3, by rw [← ejk]; exact fun q hq => by rw [ejk]; exact unhide HQ q hq⟩
                  go_wp2
                  go_roundw
                  case rel =>
                    refine ⟨k + 1, by omega, by go_num, by rw [unhide HU], ?_, BJ⟩
                    intro j hj
                    by_cases e : j = k
                    · subst e; exact unhide HA
                    · exact unhide HL j (by omega)
                  case measure => simp [intOf]; omega
            · have m3 : decide (4 < V k) = true := by simp; omega
              have HN := hide (declB_no (n := n) (S := S) (V := V) (fun h => g3 (h.2.1 k hlt).2.2.1))
              go_wp2
              rw [unhide HN]
              go_ret
              exact ⟨rfl, BL⟩
          · have m2 : decide (V k < 1) = true := by simp; omega
            have HN := hide (declB_no (n := n) (S := S) (V := V) (fun h => g2 (h.2.1 k hlt).2.1))
            go_wp2
            rw [unhide HN]
            go_ret
            exact ⟨rfl, BL⟩
        · have n1 := nameB_no g1
          have HN := hide (declB_no (n := n) (S := S) (V := V) (fun h => g1 (h.2.1 k hlt).1))
          go_wp2
          rw [unhide HN]
          go_ret
          exact ⟨rfl, BL⟩
      · have e : k = n := by omega
        subst e
        have HN := hide (declB_end h4 (unhide HL))
        go_wp2
        rw [unhide HN]
        go_ret
        exact ⟨rfl, hbel⟩
  · have HN := hide (declB_no (n := n) (S := S) (V := V) (fun h => h4 h.1))
    go_enter Tryz.func70, Tryz.ntmps70
    go_wp2
    rw [unhide HN]
    go_ret
    exact ⟨rfl, (by repeat (first | exact Below.refl _ _ | assumption | refine below_drewN ?_ _ | refine Below.drew ?_ | refine Below.alloc ?_ (by first | exact Nat.le_refl _ | exact Below.size (by assumption) | (simp; done) | (simp; omega)) _ | refine Below.setCell ?_ (by first | exact Nat.le_refl _ | exact Below.size (by assumption) | (simp; done) | (simp; omega)) _ | refine Below.trans ?_ (by assumption)))⟩
end Go.Proofs.YtfopmobopmdahaaGreat
