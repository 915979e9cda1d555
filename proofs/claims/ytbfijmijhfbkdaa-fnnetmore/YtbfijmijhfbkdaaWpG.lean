/- The laws' question whether a mark of a net that was made of another one says what it must. -/
import Derived.Test.YtbfijmijhfbkdaaNvD
import Derived.Test.YtbfijmijhfbkdaaNvP
namespace Go.Proofs.Ytbfijmijhfbkdaa
open Go.ChangeShapes Go.WideShapes Go.ChangeAt Go.RowKit Go.Joins
set_option linter.unusedVariables false
set_option linter.unusedSimpArgs false

theorem outL_ext {I : List Bool} {G G' : Nat → Gt} {n : Nat} (h : ∀ i, i < n → G' i = G i) : ∀ j, j ≤ n → outL I G' j = outL I G j
  | 0, _ => rfl
  | j + 1, hj => by rw [outL, outL, outL_ext h j (by omega), h j (by omega)]
theorem outL_both {I : List Bool} {G G' : Nat → Gt} {n n' i : Nat} (h : ∀ i, i < n → G' i = G i) (hn : n ≤ n') (hi : i < 1 + I.length + n) : atB (outL I G' n') i = atB (outL I G n) i := by
  rw [outL_pre hi hn, outL_ext h n (Nat.le_refl _)]
/-- What a mark must say. -/
def SayP (m : Int) (n : Nat) (G : Nat → Gt) (a b mk : Int) (x : Bool) : Prop := ∀ I : List Bool, (I.length : Int) = m → metB mk (1 + I.length + n) (atB (outL I G n)) = if x = true then metB a (1 + I.length + n) (atB (outL I G n)) != metB b (1 + I.length + n) (atB (outL I G n)) else metB a (1 + I.length + n) (atB (outL I G n)) && metB b (1 + I.length + n) (atB (outL I G n))
set_option maxRecDepth 100000 in
set_option maxHeartbeats 8000000 in
theorem wpGate_any (M : Nat) (a1 : Option Addr) (n1 c1 : Nat) (G1 : Nat → Gt) (a2 : Option Addr) (n2 c2 : Nat) (G2 : Nat → Gt) (a b mk : Int) (x : Bool) (k : Int) (w : World) (h1 : GtsAt w a1 n1 G1) (w1 : WG n1 G1) (h2 : GtsAt w a2 n2 G2) (w2 : WG n2 G2) (o1 : netB M n1 G1 = true) (o2 : netB M n2 G2 = true) (hn : n1 ≤ n2) (he : ∀ i, i < n1 → G2 i = G1 i) (hs : SayP M n2 G2 a b mk x) (wa : W64 a) (wb : W64 b) (wm : W64 mk) (k0 : 0 ≤ k) (k1 : k ≤ 1048576) :
    Calls Try.prog 19 #[.agg #[.int .i64 (M : Int), .slice a1 n1 c1], .agg #[.int .i64 (M : Int), .slice a2 n2 c2], .int .i64 a, .int .i64 b, .int .i64 mk, .bool x, .int .i64 k] w fun e w' => e = .returned (.bool true) ∧ Below w.heap.size w w' := by
  obtain ⟨_, hM8, hn6, _⟩ := netB_iff.1 o1
  obtain ⟨_, _, hn7, _⟩ := netB_iff.1 o2
  obtain ⟨wz, hwz⟩ : ∃ wz, wz = ((w.alloc (.cells #[.int .i64 (M : Int), .slice a1 n1 c1] 25)).alloc (.cells #[.int .i64 (M : Int), .slice a2 n2 c2] 25)).alloc (.cells #[] 4) := ⟨_, rfl⟩
  have BZ : Below w.heap.size w wz := by rw [hwz]; exact (((Below.refl _ _).alloc (Nat.le_refl _) _).alloc (by simp) _).alloc (by simp; omega) _
  have E1 : Hid (NBox wz w.heap.size M a1 n1 c1) := by rw [hwz]; exact ⟨by simp [go_sem], by simp [go_sem]⟩
  have E2 : Hid (NBox wz (w.heap.size + 1) M a2 n2 c2) := by rw [hwz]; exact ⟨by simp [go_sem], by simp [go_sem]⟩
  have OW : Hid (wz.ownsRow (w.heap.size + 2) 4 1 (.slice (some ⟨w.heap.size + 2, 0, none⟩) 0 0) 0 (bcells [])) := by
    have h := own_new ((w.alloc (.cells #[.int .i64 (M : Int), .slice a1 n1 c1] 25)).alloc (.cells #[.int .i64 (M : Int), .slice a2 n2 c2] 25)) 4 1
    simp only [World.size_alloc] at h
    rw [hwz]; exact h
  have zl : w.heap.size + 2 < wz.heap.size := by rw [hwz]; simp
  have D01 := hide h1
  have D02 := hide h2
  have HW1 := hide w1
  have HW2 := hide w2
  have HO1 := hide o1
  have HO2 := hide o2
  have HE := hide he
  have HS := hide hs
  have HZ := hide hwz
  clear h1 h2 w1 w2 o1 o2 he hs hwz
  go_enter Try.func19, Try.ntmps19
  go_wp2
  rw [← unhide HZ]
  have hsz := zl
  go_loopw [16, 15, 6] (fun i s q wr => ∃ (j g c : Nat) (I : List Bool) (k : Int), j ≤ M ∧ i = .int .i64 (j : Int) ∧ s = .slice (some ⟨g, 0, none⟩) j c ∧ q = .int .i64 k ∧ 0 ≤ k ∧ k ≤ 1048576 ∧ I.length = j ∧ wr.ownsRow (w.heap.size + 2) 4 1 (.slice (some ⟨g, 0, none⟩) j c) j (bcells I) ∧ Below (w.heap.size + 2) wz wr) (fun i _ _ _ => M - (intOf i).toNat)
  case atStart => exact ⟨0, w.heap.size + 2, 0, [], k, by omega, rfl, rfl, rfl, k0, k1, rfl, unhide OW, Below.refl _ _⟩
  case round =>
    obtain ⟨j, g, c, I, k, hj, rfl, rfl, rfl, k0, k1, hI, ow, hb⟩ := hrel
    have OWr := hide ow
    have HIL : Hid (I.length = j) := hI
    clear ow hI
    have p0 := (hb.cell (p := ⟨w.heap.size, 0, none⟩) (by simp only; omega)).trans (unhide E1).1
    have p1 := (hb.cell (p := ⟨w.heap.size, 1, none⟩) (by simp only; omega)).trans (unhide E1).2
    have q0 := (hb.cell (p := ⟨w.heap.size + 1, 0, none⟩) (by simp only; omega)).trans (unhide E2).1
    have q1 := (hb.cell (p := ⟨w.heap.size + 1, 1, none⟩) (by simp only; omega)).trans (unhide E2).2
    have hs2 := hb.size
    by_cases hlt : j < M
    · obtain ⟨g2, c3, w4, hrun, ow4, gr4, hg2⟩ := bol_one wr (w.heap.size + 2) _ j I (k % 2 == 1) (unhide OWr) (by omega) (by omega)
      have OW4 := hide ow4
      have hgb := own_base (unhide OWr)
      have B4 : Below (w.heap.size + 2) wz w4 := hb.grown gr4 (by omega) (fun k hk => by simp [Value.ownBlock] at hk; omega)
      have HR := hide hrun
      clear hrun ow4 gr4 hg2
      go_wp2_with (first | (at_builtin; refine wpList_append_run _ rfl (.tmp 28) (.tmp 32) 26 rfl _ _ _ _ rfl rfl (unhide HR) ?_))
      go_roundw
      case rel => exact ⟨j + 1, g2, c3, I ++ [k % 2 == 1], k / 2, by omega, by go_num, rfl, (by first | rfl | go_num), by omega, by omega, by simp [unhide HIL], unhide OW4, B4⟩
      case measure => simp [intOf]; omega
    · have ej : j = M := by omega
      subst ej
      have hgl := (own_cap (unhide OWr)).2
      have hbl := own_bls (unhide OWr) (unhide HIL)
      have BW : Below w.heap.size w wr := BZ.trans (hb.mono (by omega))
      have d1 := hide ((unhide D01).later BW)
      have d2 := hide ((unhide D02).later BW)
      have L1 := hide (nvL_yes (unhide HO1) (by rw [unhide HIL]) : nvL (j : Int) n1 G1 I = outL I G1 n1)
      have L2 := hide (nvL_yes (unhide HO2) (by rw [unhide HIL]) : nvL (j : Int) n2 G2 I = outL I G2 n2)
      have len1 : (outL I G1 n1).length = 1 + j + n1 := by rw [outL_len, unhide HIL]
      have len2 : (outL I G2 n2).length = 1 + j + n2 := by rw [outL_len, unhide HIL]
      have HB := hide hbl
      have HLN1 := hide len1
      have HLN2 := hide len2
      clear hbl len1 len2
      go_wp2_with fail
      refine (iNetVals_cap (j : Int) a1 n1 c1 G1 I g 0 j c _ (unhide d1) (unhide HW1) (by omega) (by omega) (unhide HIL) hgl (unhide HB)).mono ?_
      rintro e w5 ⟨⟨a5, c5, rfl, v5, _⟩, b5⟩
      rw [unhide L1, unhide HLN1] at v5
      rw [unhide L1, unhide HLN1]
      have q0 := cell_later b5 q0
      have q1 := cell_later b5 q1
      have v5 := hide v5
      have B5 := BW.trans (b5.mono BW.size)
      have d2 := hide ((unhide d2).later b5)
      have HB := hide ((unhide HB).later b5)
      have hgl := Nat.lt_of_lt_of_le hgl b5.size
      clear p0 p1 b5 d1
      go_wp2_with fail
      refine (iNetVals_cap (j : Int) a2 n2 c2 G2 I g 0 j c _ (unhide d2) (unhide HW2) (by omega) (by omega) (unhide HIL) hgl (unhide HB)).mono ?_
      rintro e w6 ⟨⟨a6, c6, rfl, v6, hcap⟩, b6⟩
      rw [unhide L2, unhide HLN2] at v6 hcap
      rw [unhide L2, unhide HLN2]
      have v5 := hide ((unhide v5).later b6)
      have B6 := B5.trans (b6.mono B5.size)
      clear q0 q1 b6 d2 HB
      obtain ⟨bw, ow, ha6, hbw, hdw⟩ := v6.ok (show 0 < 1 + j + n2 by omega)
      subst ha6
      have v6 := hide v6
      have hw : Hid (BlsAt w6 (some ⟨bw, ow, none⟩) (1 + j + n1) (atB (outL I G1 n1))) := Or.inr ⟨bw, ow, rfl, hbw, fun i hi => by
        rw [← outL_both (unhide HE) hn (by rw [unhide HIL]; exact hi)]
        exact hdw i (by omega)⟩
      clear hdw
      have kb : decide ((((1 + j + n1 : Nat)) : Int) > ((1 + j + n2 : Nat) : Int)) = false := by simp; omega
      have kc : 1 + j + n1 ≤ c6 := by omega
      go_wp2_with fail
      refine (wpBools_same _ _ _ _ _ _ _ (unhide v5) (unhide hw) (by omega)).mono ?_
      rintro e w7 ⟨rfl, b7⟩
      have v7 := hide ((unhide v6).later b7)
      have B7 := B6.trans (b7.mono B6.size)
      clear v5 v6 hw b7 hbw kb
      go_wp2_with fail
      refine (iNetLit_any a _ _ _ _ _ wa (unhide v7) (by omega)).mono ?_
      rintro e wy ⟨rfl, hwy⟩
      subst hwy
      go_wp2_with fail
      refine (iNetLit_any b _ _ _ _ _ wb (unhide v7) (by omega)).mono ?_
      rintro e wy ⟨rfl, hwy⟩
      subst hwy
      go_wp2_with fail
      refine (iNetLit_any mk _ _ _ _ _ wm (unhide v7) (by omega)).mono ?_
      rintro e wy ⟨rfl, hwy⟩
      subst hwy
      have hS := hide (unhide HS I (by rw [unhide HIL]))
      rw [unhide HIL] at hS
      clear v7 HS
      generalize metB a (1 + j + n2) (atB (outL I G2 n2)) = A at *
      generalize metB b (1 + j + n2) (atB (outL I G2 n2)) = B at *
      generalize metB mk (1 + j + n2) (atB (outL I G2 n2)) = MK at *
      cases x <;> cases A <;> cases B
      · have hm : MK = false := unhide hS
        subst hm
        clear hS
        go_wp2
        go_ret
        exact ⟨rfl, B7⟩
      · have hm : MK = false := unhide hS
        subst hm
        clear hS
        go_wp2
        go_ret
        exact ⟨rfl, B7⟩
      · have hm : MK = false := unhide hS
        subst hm
        clear hS
        go_wp2
        go_ret
        exact ⟨rfl, B7⟩
      · have hm : MK = true := unhide hS
        subst hm
        clear hS
        go_wp2
        go_ret
        exact ⟨rfl, B7⟩
      · have hm : MK = false := unhide hS
        subst hm
        clear hS
        go_wp2
        go_ret
        exact ⟨rfl, B7⟩
      · have hm : MK = true := unhide hS
        subst hm
        clear hS
        go_wp2
        go_ret
        exact ⟨rfl, B7⟩
      · have hm : MK = true := unhide hS
        subst hm
        clear hS
        go_wp2
        go_ret
        exact ⟨rfl, B7⟩
      · have hm : MK = false := unhide hS
        subst hm
        clear hS
        go_wp2
        go_ret
        exact ⟨rfl, B7⟩
end Go.Proofs.Ytbfijmijhfbkdaa
