/- The numbers of names that come in, of the model. -/
import Derived.Test.YtnojpdfkhhjcfaaInsS
namespace Go.Proofs.Ytnojpdfkhhjcfaa
open Go.ChangeShapes Go.WideShapes Go.ChangeAt Go.RowKit Go.Joins
set_option linter.unusedVariables false
set_option linter.unusedSimpArgs false

theorem prL_mono {V : Nat → Int} {i : Nat} : ∀ {n}, i ≤ n → (prL V i).length ≤ (prL V n).length
  | 0, h => by have : i = 0 := by omega
               subst this; exact Nat.le_refl _
  | n + 1, h => by
    by_cases e : i = n + 1
    · subst e; exact Nat.le_refl _
    · have := prL_mono (V := V) (show i ≤ n by omega)
      have e2 : (prL V (n + 1)).length = (prL V n).length + (V n).toNat := by simp [prL, rowP_len]
      omega
set_option maxHeartbeats 2000000 in
theorem sBlastEnv_any (b off n cap : Nat) (S : Nat → ByteArray) (V : Nat → Int) (c off' l cap' : Nat) (I : Nat → Bool) (w : World) (hb : b < w.heap.size) (hd : Decs w b off n S V) (hnc : n ≤ cap) (hn : n ≤ 1048576) (hs : ∀ i, i < n → (S i).size ≤ 1048576)
    (hc : c < w.heap.size) (he : Bls w c off' l I) (hl : l ≤ 1048576) :
    Calls Try.prog 17 #[.slice (some ⟨b, off, none⟩) n cap, .slice (some ⟨c, off', none⟩) l cap'] w fun e w' => (∃ a cp, e = .returned (.slice a (bevL n l S V I).length cp) ∧ IntsAt w' a (bevL n l S V I).length (at0 (bevL n l S V I))) ∧ Below w.heap.size w w' := by
  obtain ⟨wz, hwz⟩ : ∃ wz, wz = w.alloc (.cells #[] 3) := ⟨_, rfl⟩
  have BZ : Below w.heap.size w wz := by rw [hwz]; exact (Below.refl _ _).alloc (Nat.le_refl _) _
  have ow0 : Hid (wz.ownsRow w.heap.size 3 1 (.slice (some ⟨w.heap.size, 0, none⟩) 0 0) 0 []) := by rw [hwz]; exact own_new w _ 1
  have HD := hide hd
  have HS := hide hs
  have HE := hide he
  have hbz : b < wz.heap.size := Nat.lt_of_lt_of_le hb BZ.size
  have HZ := hide hwz
  clear hd hs he hwz
  go_enter Try.func17, Try.ntmps17
  go_wp2_with fail
  rw [← unhide HZ]
  refine (sDeclOk_any _ _ _ _ _ _ _ hbz ((unhide HD).later BZ) hnc hn (unhide HS)).mono ?_
  rintro e w1 ⟨rfl, b1⟩
  have OW1 := hide (World.ownsRow.kept (unhide ow0) (grown_below b1) (Classical.em _))
  have B1 := BZ.trans (b1.mono BZ.size)
  clear b1 ow0
  by_cases hP : DeclP n S V
  · have hPb := declB_yes hP
    have HV : Hid (∀ i, i < n → 1 ≤ V i ∧ V i ≤ 4) := fun i hi => ⟨(hP.2.1 i hi).2.1, (hP.2.1 i hi).2.2.1⟩
    have h4 := hP.1
    have hle := prL_le hP
    have HPL : Hid (((prL V n).length : Int) = sumV V n) := prL_len n (fun i hi => by have := (unhide HV i hi).1; omega)
    have HPP := hide hP
    clear hP
    go_wp2_with fail
    refine (l8Bits_any _ _ _ _ S V _ (Nat.lt_of_lt_of_le hb B1.size) ((unhide HD).later B1) h4 (unhide HV)).mono ?_
    rintro e w2 ⟨rfl, rfl⟩
    by_cases hls : (l : Int) = sumV V n
    · have HN := hide (bevL_yes (I := I) ⟨unhide HPP, hls⟩)
      have kb : ((l : Int) != sumV V n) = false := by simp [hls]
      have hll : (prL V n).length = l := by have := unhide HPL; omega
      clear hls
      go_wp2
      go_loopw [7, 5, 6] (fun i s q wr => ∃ (j g cp : Nat), j ≤ n ∧ i = .int .i64 j ∧ q = .int .i64 (((prL V j).length : Nat) : Int) ∧ s = .slice (some ⟨g, 0, none⟩) j cp ∧ wr.ownsRow w.heap.size 3 1 (.slice (some ⟨g, 0, none⟩) j cp) j (icells (envL V I j)) ∧ Below w.heap.size w wr) (fun i _ _ _ => n - (intOf i).toNat)
      case atStart => exact ⟨0, w.heap.size, 0, by omega, rfl, rfl, rfl, unhide OW1, B1⟩
      case round =>
        obtain ⟨j, g, cp, hj, rfl, rfl, rfl, ow, hbel⟩ := hrel
        have OWr := hide ow
        clear ow
        by_cases hlt : j < n
        · obtain ⟨v1, v2⟩ := unhide HV j hlt
          obtain ⟨v, hv⟩ := Int.eq_ofNat_of_zero_le (show 0 ≤ V j by omega)
          have hvn : (V j).toNat = v := by rw [hv]; rfl
          have d1 := (hbel.cell (p := ⟨b, off + j * 2 + 1, none⟩) hb).trans (unhide HD j hlt).2
          rw [hv] at d1 v1 v2
          have eL : (prL V (j + 1)).length = (prL V j).length + v := by simp [prL, rowP_len, hvn]
          have hlm := prL_mono (V := V) (show j + 1 ≤ n by omega)
          obtain ⟨a, ha⟩ : ∃ a, a = (prL V j).length := ⟨_, rfl⟩
          have HA := hide ha
          rw [← ha] at eL ⊢
          have HEL := hide eL
          have hav : a + v ≤ l := by omega
          clear ha hlm eL
          go_wp2
          go_loopw [9, 8, 6] (fun k s q wq => ∃ t : Nat, t ≤ v ∧ k = .int .i64 (t : Int) ∧ s = .int .i64 (sayM I a t) ∧ q = .int .i64 ((a + t : Nat) : Int) ∧ wq = wr) (fun k _ _ _ => v - (intOf k).toNat)
          case atStart => exact ⟨0, by omega, rfl, rfl, by simp, rfl⟩
          case round =>
            obtain ⟨t, ht, rfl, rfl, rfl, rfl⟩ := hrel
            obtain ⟨m1, m2⟩ := sayM_bd I a t
            have m3 := (two_sm (k := t) (by omega)).2
            by_cases htv : t < v
            · have g0 := (hbel.cell (p := ⟨c, off' + (a + t), none⟩) hc).trans (unhide HE (a + t) (by omega))
              have HU := hide (show sayM I a (t + 1) = sayM I a t * 2 + (if I (a + t) = true then 1 else 0) from rfl)
              go_wp2_with fail
              refine (l2Bool_any _ _).mono ?_
              rintro e w5 ⟨rfl, rfl⟩
              generalize sayM I a t = M at *
              cases hI : I (a + t)
              · rw [hI] at HU
                simp only [if_neg Bool.false_ne_true]
                go_wp2
                go_roundw
                case rel => exact ⟨t + 1, by omega, by go_num, (by first | (rw [unhide HU]; done) | (rw [unhide HU]; rfl) | (rw [unhide HU]; simp; done) | (rw [unhide HU]; go_num)), (by first | rfl | go_num), (by first | rfl | trivial)⟩
                case measure => simp [intOf]; omega
              · rw [hI] at HU
                simp only [if_pos rfl]
                go_wp2
                go_roundw
                case rel => exact ⟨t + 1, by omega, by go_num, (by first | (rw [unhide HU]; done) | (rw [unhide HU]; rfl) | (rw [unhide HU]; simp; done) | (rw [unhide HU]; go_num)), (by first | rfl | go_num), (by first | rfl | trivial)⟩
                case measure => simp [intOf]; omega
            · have etv : t = v := by omega
              subst etv
              obtain ⟨g2, c2, w4, hrun, ow4, gr4, hg2⟩ := int_one wr w.heap.size _ j (envL V I j) (sayM I a t) (unhide OWr) (by omega) hbel.size
              have OW4 : Hid (w4.ownsRow w.heap.size 3 1 (.slice (some ⟨g2, 0, none⟩) (j + 1) c2) (j + 1) (icells (envL V I (j + 1)))) := by
                show Hid (w4.ownsRow w.heap.size 3 1 (.slice (some ⟨g2, 0, none⟩) (j + 1) c2) (j + 1) (icells (envL V I j ++ [sayM I (prL V j).length (V j).toNat])))
                rw [← unhide HA, hvn]; exact ow4
              have hgb := own_base (unhide OWr)
              have B4 : Below w.heap.size w w4 := hbel.grown gr4 hbel.size (fun k hk => by simp [Value.ownBlock] at hk; omega)
              have HR := hide hrun
              clear hrun ow4 gr4 hg2
              go_wp2_with (first | (at_builtin; refine wpList_append_run _ rfl (.tmp 47) (.tmp 49) 23 rfl _ _ _ _ rfl rfl (unhide HR) ?_))
              go_roundw
              case rel => exact ⟨j + 1, g2, c2, by omega, by go_num, by rw [unhide HEL]; first | done | go_num, rfl, unhide OW4, B4⟩
              case measure => simp [intOf]; omega
        · have e : j = n := by omega
          subst e
          go_wp2
          go_ret
          refine ⟨⟨some ⟨g, 0, none⟩, cp, by rw [unhide HN, envL_len]; rfl, ?_⟩, hbel⟩
          rw [unhide HN, envL_len]
          exact own_at (unhide OWr)
    · have HN := hide (bevL_no (I := I) (fun h => hls h.2) : bevL n l S V I = [])
      have kb : ((l : Int) != sumV V n) = true := by simp [hls]
      go_wp2
      go_ret
      rw [unhide HN]
      exact ⟨⟨_, _, rfl, Or.inl rfl⟩, B1⟩
  · have hPb := declB_no hP
    have HN := hide (bevL_no (I := I) (fun h => hP h.1) : bevL n l S V I = [])
    clear hP
    go_wp2
    go_ret
    rw [unhide HN]
    exact ⟨⟨_, _, rfl, Or.inl rfl⟩, B1⟩
end Go.Proofs.Ytnojpdfkhhjcfaa
