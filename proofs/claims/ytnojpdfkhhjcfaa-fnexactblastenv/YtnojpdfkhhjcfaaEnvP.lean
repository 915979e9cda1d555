/- The numbers of names that come in, of the program. -/
import Derived.Test.YtnojpdfkhhjcfaaInbP
import Derived.Test.YtnojpdfkhhjcfaaEnvS
import Derived.Test.YtnojpdfkhhjcfaaRngK
namespace Go.Proofs.Ytnojpdfkhhjcfaa
open Go.ChangeShapes Go.WideShapes Go.ChangeAt Go.RowKit Go.Joins
set_option linter.unusedVariables false
set_option linter.unusedSimpArgs false

theorem made_zero (w : World) (z : Value) (n i : Nat) (e : TypeId) (hi : i < n) : (w.alloc (.cells (madeCells #[z] n) e)).cell? ⟨w.heap.size, i, none⟩ = some z := by
  rw [World.cell?_alloc_new]
  have h : (madeCells #[z] n).toList = List.replicate n z := toList_madeCells_one z n
  rw [← Array.getElem?_toList, h, List.getElem?_replicate, if_pos hi]
theorem sayP_bd {L : List (Nat × Nat)} {I : Nat → Bool} {j : Nat} : ∀ k, (∀ i, i < k → (pAt L i).2 ≤ 3) → 0 ≤ sayP L I j k ∧ sayP L I j k ≤ 8 * k
  | 0, _ => by simp [sayP]
  | k + 1, h => by
    obtain ⟨h1, h2⟩ := sayP_bd (L := L) (I := I) (j := j) k (fun i hi => h i (by omega))
    have h3 := h k (by omega)
    have : two (((pAt L k).2 : Nat) : Int) ≤ 8 ∧ 1 ≤ two (((pAt L k).2 : Nat) : Int) := by
      generalize (pAt L k).2 = q at *
      have : q = 0 ∨ q = 1 ∨ q = 2 ∨ q = 3 := by omega
      rcases this with rfl | rfl | rfl | rfl <;> decide
    simp only [sayP]
    split <;> omega
set_option maxHeartbeats 2000000 in
theorem iBlastEnv_any (b off n cap : Nat) (S : Nat → ByteArray) (V : Nat → Int) (c off' l cap' : Nat) (I : Nat → Bool) (w : World) (hb : b < w.heap.size) (hd : Decs w b off n S V) (hnc : n ≤ cap) (hn : n ≤ 1048576) (hs : ∀ i, i < n → (S i).size ≤ 1048576)
    (hc : c < w.heap.size) (he : Bls w c off' l I) (hl : l ≤ 1048576) :
    Calls Try.prog 19 #[.slice (some ⟨b, off, none⟩) n cap, .slice (some ⟨c, off', none⟩) l cap'] w fun e w' => (∃ a cp, e = .returned (.slice a (bevL n l S V I).length cp) ∧ IntsAt w' a (bevL n l S V I).length (at0 (bevL n l S V I)) ∧ OwnB w' w.heap.size a (bevL n l S V I).length) ∧ Below w.heap.size w w' := by
  have HD := hide hd
  have HS := hide hs
  have HE := hide he
  clear hd hs he
  go_enter Try.func19, Try.ntmps19
  go_wp2_with fail
  refine (iDeclOk_any _ _ _ _ _ _ _ hb (unhide HD) hnc hn (unhide HS)).mono ?_
  rintro e w1 ⟨rfl, B1⟩
  by_cases hP : DeclP n S V
  · have hPb := declB_yes hP
    have HV : Hid (∀ i, i < n → 1 ≤ V i ∧ V i ≤ 4) := fun i hi => ⟨(hP.2.1 i hi).2.1, (hP.2.1 i hi).2.2.1⟩
    have h4 := hP.1
    have hle := prL_le hP
    have HPL : Hid (((prL V n).length : Int) = sumV V n) := prL_len n (fun i hi => by have := (unhide HV i hi).1; omega)
    have HPP := hide hP
    clear hP
    go_wp2_with fail
    refine (inBits_any _ _ _ _ S V _ (Nat.lt_of_lt_of_le hb B1.size) ((unhide HD).later B1) h4 (unhide HV)).mono ?_
    rintro e w2 ⟨⟨g, cp, rfl, pr, hg, hgb⟩, b2⟩
    have B2 := B1.trans (b2.mono B1.size)
    have HP := hide pr
    have hw2 := B2.size
    clear pr b2 B1
    by_cases hls : (prL V n).length = l
    · have HN := hide (bevL_yes (I := I) ⟨unhide HPP, by rw [← unhide HPL, hls]⟩ : bevL n l S V I = envL V I n)
      have HLM : Hid (∀ k, k < (prL V n).length → (pAt (prL V n) k).1 < n ∧ (pAt (prL V n) k).2 ≤ 3) := fun k hk => by
        obtain ⟨h1, h2⟩ := prL_mem (fun i hi => (unhide HV i hi).1) (pAt_mem hk)
        have := (unhide HV _ h1).2
        exact ⟨h1, by omega⟩
      have HAL : Hid (∀ j, j < n → sayP (prL V n) I j l = at0 (envL V I n) j) := fun j hj => by rw [← hls, sayP_all I j n hj, envL_at V I hj]
      have HPR : Hid (∀ k, k < l → w2.cell? ⟨g, k * 2, none⟩ = some (.int .i64 ((pAt (prL V n) k).1 : Int)) ∧ w2.cell? ⟨g, k * 2 + 1, none⟩ = some (.int .i64 ((pAt (prL V n) k).2 : Int))) := fun k hk => by
        have h := unhide HP k (by rw [hls]; exact hk)
        rw [Nat.zero_add] at h
        exact h
      rw [hls] at HLM
      clear HP
      generalize hPn : prL V n = P at *
      clear hPn HPL
      have hmk := run_make_wide (P := Try.prog) 23 3 _ 1 8 Try.underlying23 infoInt .i64 .i64 n (by omega) (by omega)
      simp only [Nat.mul_one] at hmk
      have kb : ((P.length : Int) != (l : Int)) = false := by simp [hls]
      rw [hls] at kb hle ⊢
      clear hls
      go_wp2
      go_loopw [24] (fun i wr => ∃ k : Nat, k ≤ l ∧ i = .int .i64 k ∧ Ints wr w2.heap.size 0 n (fun j => sayP P I j k) ∧ Made wr w2.heap.size n ∧ Below w2.heap.size w2 wr) (fun i _ => l - (intOf i).toNat)
      case atStart =>
        refine ⟨0, by omega, rfl, fun i hi => ?_, Made.new _ _ _ _, (Below.refl _ _).alloc (Nat.le_refl _) _⟩
        rw [Nat.zero_add]
        exact made_zero w2 (.int .i64 0) n i 3 hi
      case round =>
        obtain ⟨k, hk, rfl, hdk, hmd, hbel⟩ := hrel
        have HK := hide hdk
        have HM := hide hmd
        clear hdk hmd
        have hlt0 := (unhide HM).1
        by_cases hlt : k < l
        · obtain ⟨d0, d1⟩ := unhide HPR k hlt
          replace d0 := cell_later hbel d0
          replace d1 := cell_later hbel d1
          have hsb : 0 ≤ sayP P I (pAt P k).1 k ∧ sayP P I (pAt P k).1 k ≤ 8 * k := sayP_bd k (fun i hi => (unhide HLM i (by omega)).2)
          obtain ⟨a1, q3⟩ := unhide HLM k hlt
          have HU : Hid (∀ j, sayP P I j (k + 1) = sayP P I j k + (if (pAt P k).1 = j ∧ I k = true then two (((pAt P k).2 : Nat) : Int) else 0)) := fun j => rfl
          generalize (pAt P k).1 = a at *
          generalize (pAt P k).2 = q at *
          obtain ⟨s0, s1⟩ := hsb
          have g0 := (B2.trans (hbel.mono hw2)).cell (p := ⟨c, off' + k, none⟩) hc |>.trans (unhide HE k hlt)
          have ea : (a : Int) < (n : Int) := by omega
          obtain ⟨wy, hwy⟩ : ∃ wy, wy = wr.alloc (.cells #[.int .i64 (a : Int), .int .i64 (q : Int)] 50) := ⟨_, rfl⟩
          have by1 : Below wr.heap.size wr wy := by rw [hwy]; exact (Below.refl _ _).alloc (Nat.le_refl _) _
          have x0 : wy.cell? ⟨wr.heap.size, 0, none⟩ = some (.int .i64 (a : Int)) := by rw [hwy]; simp [go_sem]
          have x1 : wy.cell? ⟨wr.heap.size, 1, none⟩ = some (.int .i64 (q : Int)) := by rw [hwy]; simp [go_sem]
          have g1 := cell_later by1 g0
          have HMy := hide ((unhide HM).later by1)
          have HKy := hide ((unhide HK).later by1)
          have hby := hbel.trans (by1.mono hbel.size)
          have HY := hide hwy
          obtain ⟨⟨u0, q0⟩, f0⟩ := (unhide HMy).2 a a1
          have e0 := unhide HKy a a1
          rw [Nat.zero_add] at e0
          have hu := q0.symm.trans e0
          simp only [Option.some.injEq] at hu
          subst hu
          clear e0
          have hcr : c < wr.heap.size := World.block_lt_of_cell? _ _ g0
          have hcn : c ≠ wr.heap.size := by omega
          clear hwy HM HK by1
          cases hI : I k
          · rw [hI] at g1 g0
            have HK2 : Hid (Ints wy w2.heap.size 0 n (fun j => sayP P I j (k + 1))) := fun i hi => by
              have h := unhide HKy i hi
              show _ = some (Value.int .i64 (sayP P I i (k + 1)))
              rw [unhide HU i, hI]
              simpa using h
            go_wp2
            rw [← unhide HY]
            go_roundw
            case rel => exact ⟨k + 1, by omega, by go_num, unhide HK2, unhide HMy, hby⟩
            case measure => simp [intOf]; omega
          · rw [hI] at g1 g0
            have HK2 : Hid (Ints (wy.setCell ⟨w2.heap.size, a, none⟩ (.int .i64 (sayP P I a k + two (q : Int)))) w2.heap.size 0 n (fun j => sayP P I j (k + 1))) := fun i hi => by
              rw [Nat.zero_add]
              by_cases ei : i = a
              · subst ei
                rw [World.cell?_setCell_same _ _ _ q0]
                show _ = some (Value.int .i64 (sayP P I i (k + 1)))
                rw [unhide HU i, hI]
                simp
              · rw [World.cell?_setCell_other _ _ _ _ (by simp <;> omega)]
                have h := unhide HKy i hi
                rw [Nat.zero_add] at h
                show _ = some (Value.int .i64 (sayP P I i (k + 1)))
                rw [unhide HU i]
                rw [if_neg (fun h => ei h.1.symm), Int.add_zero]
                exact h
            have hB : w2.heap.size < wr.heap.size := hlt0
            go_wp2
            rw [← unhide HY]
            clear HY hbel d0 d1 g0 HKy HU
            generalize sayP P I a k = s at *
            generalize wr.heap.size = B at *
            have : q = 0 ∨ q = 1 ∨ q = 2 ∨ q = 3 := by omega
            rcases this with rfl | rfl | rfl | rfl
            · have HT : Hid (two ((0 : Nat) : Int) = 1) := by show _ = _; decide
              rw [unhide HT] at HK2
              go_region
              all_goals go_wp2
              all_goals go_roundw
              case rel => exact ⟨k + 1, by omega, by go_num, unhide HK2, (unhide HMy).set _ _, (hby.setCell (Nat.le_refl _) _).drew⟩
              case measure => simp [intOf]; omega
            · have HT : Hid (two ((1 : Nat) : Int) = 2) := by show _ = _; decide
              rw [unhide HT] at HK2
              go_region
              all_goals go_wp2
              all_goals go_roundw
              case rel => exact ⟨k + 1, by omega, by go_num, unhide HK2, (unhide HMy).set _ _, (hby.setCell (Nat.le_refl _) _).drew⟩
              case measure => simp [intOf]; omega
            · have HT : Hid (two ((2 : Nat) : Int) = 4) := by show _ = _; decide
              rw [unhide HT] at HK2
              go_region
              all_goals go_wp2
              all_goals go_roundw
              case rel => exact ⟨k + 1, by omega, by go_num, unhide HK2, (unhide HMy).set _ _, (hby.setCell (Nat.le_refl _) _).drew⟩
              case measure => simp [intOf]; omega
            · have HT : Hid (two ((3 : Nat) : Int) = 8) := by show _ = _; decide
              rw [unhide HT] at HK2
              go_region
              all_goals go_wp2
              all_goals go_roundw
              case rel => exact ⟨k + 1, by omega, by go_num, unhide HK2, (unhide HMy).set _ _, (hby.setCell (Nat.le_refl _) _).drew⟩
              case measure => simp [intOf]; omega
        · have e : k = l := by omega
          subst e
          go_wp2
          go_ret
          refine ⟨⟨some ⟨w2.heap.size, 0, none⟩, n, by rw [unhide HN, envL_len]; rfl, ?_, ?_⟩, B2.trans (hbel.mono hw2)⟩
          · rw [unhide HN, envL_len]; exact IntsAt.cong ((unhide HK).at hlt0) (fun i hi => unhide HAL i hi)
          · rw [unhide HN, envL_len]; exact Or.inr ⟨_, rfl, hw2, unhide HM⟩
    · have HN := hide (bevL_no (I := I) (fun h => hls (by have h1 := unhide HPL; have h2 := h.2; omega)) : bevL n l S V I = [])
      have kb : (((prL V n).length : Int) != (l : Int)) = true := by simp; omega
      go_wp2
      go_ret
      rw [unhide HN]
      exact ⟨⟨_, _, rfl, Or.inl rfl, Or.inl rfl⟩, B2⟩
  · have hPb := declB_no hP
    have HN := hide (bevL_no (I := I) (fun h => hP h.1) : bevL n l S V I = [])
    clear hP
    go_wp2
    go_ret
    rw [unhide HN]
    exact ⟨⟨_, _, rfl, Or.inl rfl, Or.inl rfl⟩, B1⟩
end Go.Proofs.Ytnojpdfkhhjcfaa
