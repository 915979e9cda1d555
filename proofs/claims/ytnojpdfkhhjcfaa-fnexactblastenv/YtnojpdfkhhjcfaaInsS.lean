/- What comes in for numbers of names, and back, of the model. -/
import Derived.Test.YtnojpdfkhhjcfaaInsM
import Derived.Test.YtnojpdfkhhjcfaaVecB
namespace Go.Proofs.Ytnojpdfkhhjcfaa
open Go.ChangeShapes Go.WideShapes Go.ChangeAt Go.RowKit Go.Joins
set_option linter.unusedVariables false
set_option linter.unusedSimpArgs false

theorem two_sm {k : Nat} (h : k ≤ 4) : 1 ≤ two (k : Int) ∧ two (k : Int) ≤ 16 := by
  have : k = 0 ∨ k = 1 ∨ k = 2 ∨ k = 3 ∨ k = 4 := by omega
  rcases this with rfl | rfl | rfl | rfl | rfl <;> decide
theorem okB_bd {a n : Int} (h : okB a n = true) : 1 ≤ a ∧ a ≤ 4 ∧ 0 ≤ n ∧ n < 16 := by
  simp only [okB, Bool.and_eq_true, decide_eq_true_eq] at h
  obtain ⟨⟨⟨h1, h2⟩, h3⟩, h4⟩ := h
  obtain ⟨k, rfl⟩ := Int.eq_ofNat_of_zero_le (show 0 ≤ a by omega)
  have := (two_sm (k := k) (by omega)).2
  exact ⟨h1, h2, h3, by omega⟩
set_option maxHeartbeats 2000000 in
theorem sBlastIns_any (b off n cap : Nat) (S : Nat → ByteArray) (V : Nat → Int) (c off' m cap' : Nat) (E : Nat → Int) (w : World) (hb : b < w.heap.size) (hd : Decs w b off n S V) (hnc : n ≤ cap) (hn : n ≤ 1048576) (hs : ∀ i, i < n → (S i).size ≤ 1048576)
    (hc : c < w.heap.size) (he : Ints w c off' m E) (hm : m ≤ 1048576) :
    Calls Try.prog 6 #[.slice (some ⟨b, off, none⟩) n cap, .slice (some ⟨c, off', none⟩) m cap'] w fun e w' => (∃ a cp, e = .returned (.slice a (binL n m S V E).length cp) ∧ BlsAt w' a (binL n m S V E).length (atB (binL n m S V E))) ∧ Below w.heap.size w w' := by
  obtain ⟨wz, hwz⟩ : ∃ wz, wz = w.alloc (.cells #[] 4) := ⟨_, rfl⟩
  have BZ : Below w.heap.size w wz := by rw [hwz]; exact (Below.refl _ _).alloc (Nat.le_refl _) _
  have ow0 : Hid (wz.ownsRow w.heap.size 4 1 (.slice (some ⟨w.heap.size, 0, none⟩) 0 0) 0 []) := by rw [hwz]; exact own_new w _ 1
  have HD := hide hd
  have HS := hide hs
  have HE := hide he
  have hbz : b < wz.heap.size := Nat.lt_of_lt_of_le hb BZ.size
  have hcz : c < wz.heap.size := Nat.lt_of_lt_of_le hc BZ.size
  have wsz : w.heap.size ≤ wz.heap.size := BZ.size
  have HZ := hide hwz
  clear hd hs he hwz
  go_enter Try.func6, Try.ntmps6
  go_wp2_with fail
  rw [← unhide HZ]
  refine (sEnvOk_any _ _ _ _ _ _ _ _ _ _ _ _ hbz ((unhide HD).later BZ) hnc hn (unhide HS) hcz ((unhide HE).later BZ) hm).mono ?_
  rintro e w1 ⟨rfl, b1⟩
  have OW1 := hide (World.ownsRow.kept (unhide ow0) (grown_below b1) (Classical.em _))
  have B1 := BZ.trans (b1.mono BZ.size)
  clear b1 ow0
  by_cases hP : EnvP n m S V E
  · have hnm := hP.2.1
    subst hnm
    have hPb := envB_yes hP
    have HN := hide (binL_yes hP)
    have HVB : Hid (∀ i, i < n → okB (V i) (E i) = true) := hP.2.2
    have h4 := hP.1.1
    have hle := prL_le hP.1
    clear hP
    go_wp2
    go_loopw [6, 5] (fun i s wr => ∃ (j g cp : Nat), j ≤ n ∧ i = .int .i64 j ∧ s = .slice (some ⟨g, 0, none⟩) (prL V j).length cp ∧ wr.ownsRow w.heap.size 4 1 (.slice (some ⟨g, 0, none⟩) (prL V j).length cp) (prL V j).length (bcells (insL V E j 0)) ∧ Below w.heap.size w wr ∧ (prL V j).length ≤ 4 * j) (fun i _ _ => n - (intOf i).toNat)
    case atStart => exact ⟨0, w.heap.size, 0, by omega, rfl, rfl, unhide OW1, B1, by simp [prL]⟩
    case round =>
      obtain ⟨j, g, cp, hj, rfl, rfl, ow, hbel, hl4⟩ := hrel
      have OWr := hide ow
      clear ow
      by_cases hlt : j < n
      · obtain ⟨v1, v2, e0, e1⟩ := okB_bd (unhide HVB j hlt)
        obtain ⟨v, hv⟩ := Int.eq_ofNat_of_zero_le (show 0 ≤ V j by omega)
        have hvn : (V j).toNat = v := by rw [hv]; rfl
        have d1 := (hbel.cell (p := ⟨b, off + j * 2 + 1, none⟩) hb).trans (unhide HD j hlt).2
        have g0 := unhide HE j hlt
        rw [hv] at d1 v1 v2
        go_wp2
        go_loopw [7, 5] (fun k s wq => ∃ (t g cp : Nat), t ≤ v ∧ k = .int .i64 ((v : Int) - 1 - t) ∧ s = .slice (some ⟨g, 0, none⟩) ((prL V j).length + t : Nat) cp ∧ wq.ownsRow w.heap.size 4 1 (.slice (some ⟨g, 0, none⟩) ((prL V j).length + t) cp) ((prL V j).length + t) (bcells (insL V E j t)) ∧ Below w.heap.size w wq) (fun k _ _ => (intOf k + 1).toNat)
        case atStart => exact ⟨0, g, cp, by omega, by simp, rfl, unhide OWr, hbel⟩
        case round =>
          obtain ⟨t, g, cp, ht, rfl, rfl, ow, hbel⟩ := hrel
          have OWq := hide ow
          clear ow OWr
          by_cases htv : t < v
          · have d1 := (hbel.cell (p := ⟨c, off' + j, none⟩) hc).trans g0
            have hk : decide ((v : Int) - 1 - t ≥ 0) = true := by simp; omega
            have HBV : Hid (bitB (E j) ((V j).toNat - 1 - t) = (E j / two ((v : Int) - 1 - t) % 2 == 1)) := by
              have e2 : ((v - 1 - t : Nat) : Int) = (v : Int) - 1 - t := by omega
              have e3 : bitB (E j) (v - 1 - t) = (E j / two ((v : Int) - 1 - t) % 2 == 1) := by unfold bitB; rw [e2]
              rw [hvn]; exact e3
            have hsq := hbel.size
            obtain ⟨g2, c2, w4, hrun, ow4, gr4, hg2⟩ := bol_one wr w.heap.size _ ((prL V j).length + t) (insL V E j t) (E j / two ((v : Int) - 1 - t) % 2 == 1) (unhide OWq) (by omega) hsq
            rw [← unhide HBV, ← insL_next] at ow4
            have OW4 : Hid (w4.ownsRow w.heap.size 4 1 (.slice (some ⟨g2, 0, none⟩) ((prL V j).length + (t + 1)) c2) ((prL V j).length + (t + 1)) (bcells (insL V E j (t + 1)))) := ow4
            have hgb := own_base (unhide OWq)
            have B4 : Below w.heap.size w w4 := hbel.grown gr4 hbel.size (fun k hk => by simp [Value.ownBlock] at hk; omega)
            have HR := hide hrun
            clear hrun ow4 gr4 hg2
            go_wp2_with fail
            refine (bit_any _ _ _ e0 (by omega) (by omega) (by omega)).mono ?_
            rintro e w5 ⟨rfl, rfl⟩
            go_wp2_with (first | (at_builtin; refine wpList_append_run _ rfl (.tmp 30) (.tmp 38) 25 rfl _ _ _ _ rfl rfl (unhide HR) ?_))
            go_roundw
            case rel => exact ⟨t + 1, g2, c2, by omega, by go_num, rfl, unhide OW4, B4⟩
            case measure => simp [intOf]; omega
          · have etv : t = v := by omega
            subst etv
            have hk : decide ((t : Int) - 1 - t ≥ 0) = false := by simp <;> omega
            have eL : (prL V (j + 1)).length = (prL V j).length + t := by simp [prL, rowP_len, hvn]
            have OW5 : Hid (wr.ownsRow w.heap.size 4 1 (.slice (some ⟨g, 0, none⟩) (prL V (j + 1)).length cp) (prL V (j + 1)).length (bcells (insL V E (j + 1) 0))) := by
              rw [eL, ← insL_full, hvn]; exact unhide OWq
            have HEL := hide eL
            clear eL
            go_wp2
            go_roundw
            case rel => exact ⟨j + 1, g, cp, by omega, by go_num, by rw [unhide HEL], unhide OW5, hbel, by rw [unhide HEL]; omega⟩
            case measure => simp [intOf]; omega
      · have e : j = n := by omega
        subst e
        go_wp2
        go_ret
        refine ⟨⟨some ⟨g, 0, none⟩, cp, by rw [unhide HN, insL_len]; rfl, ?_⟩, hbel⟩
        rw [unhide HN, insL_len]
        exact own_blsAt (unhide OWr)
  · have hPb := envB_no hP
    have HN := hide (binL_no hP)
    clear hP
    go_wp2
    go_ret
    rw [unhide HN]
    exact ⟨⟨_, _, rfl, Or.inl rfl⟩, B1⟩
set_option maxHeartbeats 1000000 in
theorem l8Bits_any (b off n cap : Nat) (S : Nat → ByteArray) (V : Nat → Int) (w : World) (hb : b < w.heap.size) (hd : Decs w b off n S V) (hn : n ≤ 4) (hv : ∀ i, i < n → 1 ≤ V i ∧ V i ≤ 4) :
    Calls Try.prog 31 #[.slice (some ⟨b, off, none⟩) n cap] w fun e w' => e = .returned (.int .i64 (sumV V n)) ∧ w' = w := by
  have HD := hide hd
  have HV := hide hv
  clear hd hv
  go_enter Try.func31, Try.ntmps31
  go_wp2
  go_loopw [4, 3] (fun i s wr => ∃ j : Nat, j ≤ n ∧ i = .int .i64 j ∧ s = .int .i64 (sumV V j) ∧ wr = w) (fun i _ _ => n - (intOf i).toNat)
  case atStart => exact ⟨0, by omega, rfl, rfl, rfl⟩
  case round =>
    obtain ⟨j, hj, rfl, rfl, rfl⟩ := hrel
    by_cases hlt : j < n
    · have d1 := (unhide HD j hlt).2
      obtain ⟨v1, v2⟩ := unhide HV j hlt
      obtain ⟨s1, s2⟩ := sumV_bd (V := V) (k := j) (fun i hi => unhide HV i (by omega))
      have HU := hide (show sumV V (j + 1) = sumV V j + V j from rfl)
      go_wp2
      go_roundw
      case rel => exact ⟨j + 1, by omega, by go_num, by rw [unhide HU], (by first | rfl | trivial)⟩
      case measure => simp [intOf]; omega
    · have e : j = n := by omega
      subst e
      go_wp2
      go_ret
      exact ⟨rfl, rfl⟩
theorem l2Bool_any (x : Bool) (w : World) :
    Calls Try.prog 32 #[.bool x] w fun e w' => e = .returned (.int .i64 (if x = true then 1 else 0)) ∧ w' = w := by
  cases x
  · go_enter Try.func32, Try.ntmps32
    go_wp2
    go_ret
    exact ⟨rfl, rfl⟩
  · go_enter Try.func32, Try.ntmps32
    go_wp2
    go_ret
    exact ⟨rfl, rfl⟩
end Go.Proofs.Ytnojpdfkhhjcfaa
