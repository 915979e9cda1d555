/- Nets evaluate gate by gate: the law FnNetVals returns true for every code of bytes, and leaves it as it was. No condition (the law itself answers true where the code is longer than 1048576 bytes). -/
import Derived.Test.YtbfijmijhfbkdaaDnC
import Derived.Test.YtbfijmijhfbkdaaNvP
import Derived.Test.YtbfijmijhfbkdaaRowC
namespace Go.Proofs.Ytbfijmijhfbkdaa
open Go.ChangeShapes Go.WideShapes Go.ChangeAt Go.RowKit Go.Joins
open Go.ChangeMaps (open_string shut_string)
set_option linter.unusedVariables false
set_option linter.unusedSimpArgs false

namespace nVals
set_option maxRecDepth 100000 in
set_option maxHeartbeats 4000000 in
theorem walk (code : Option Addr) (lencode capcode : Nat) (zcode : List Int) (w : World) (wcode : IsRow .u8 w code lencode capcode zcode) :
    Calls Try.prog 3 #[.slice code lencode capcode] w fun e w' => e = .returned (.bool true) ∧ Below w.heap.size w w' := by
  obtain ⟨hby, hlc, hcm⟩ := wcode.byts
  by_cases hl0 : lencode ≤ 1048576
  · go_enter Try.func3, Try.ntmps3
    go_wp2_with fail
    refine (drawNetVals_any _ _ _ _ hl0 hlc hcm hby).mono ?_
    rintro e w1 ⟨m, g, n, cap, G, q, N, k, rfl, ⟨hm0, hm9⟩, hn, hN, gt, wg, bl, hq, BL⟩
    clear wcode hby
    have hgl : n = 0 ∨ g < w1.heap.size := by
      rcases gt with h | ⟨b, off, e, h, _⟩
      · exact Or.inl h
      · cases e; exact Or.inr h
    obtain ⟨I, hIe⟩ : ∃ I, I = lst N (vls N k) := ⟨_, rfl⟩
    have hIl : I.length = N := by rw [hIe]; exact lst_len _ _
    have hIa : ∀ i, i < N → vls N k i = atB I i := fun i hi => by rw [hIe]; exact (lst_at hi).symm
    have HIL : Hid (I.length = N) := hIl
    clear hIe
    obtain ⟨L, hL⟩ : ∃ L, L = nvL m n G I := ⟨_, rfl⟩
    have hl : L.length ≤ 1048576 := by rw [hL]; have := nvL_le (m := m) (n := n) (G := G) (I := I); omega
    have HL := hide hL
    clear hL
    obtain ⟨ln, hln⟩ : ∃ l, l = L.length := ⟨_, rfl⟩
    rw [← hln] at hl
    have HLN := hide hln
    clear hln
    have HWG := hide wg
    have ba : Below w1.heap.size w1 (w1.alloc (.cells #[.int .i64 m, .slice (some ⟨g, 0, none⟩) n cap] 25)) := (Below.refl _ _).alloc (Nat.le_refl _) _
    have HE : Hid (NBox (w1.alloc (.cells #[.int .i64 m, .slice (some ⟨g, 0, none⟩) n cap] 25)) w1.heap.size m (some ⟨g, 0, none⟩) n cap) := NBox.new _ _ _ _ _ _
    have HD := hide (gt.later ba)
    have HI : Hid (Bls (w1.alloc (.cells #[.int .i64 m, .slice (some ⟨g, 0, none⟩) n cap] 25)) q 0 N (atB I)) := (bl.cong hIa).later ba
    replace BL := BL.trans (ba.mono BL.size)
    replace hq := Nat.lt_of_lt_of_le hq ba.size
    clear gt bl wg hIa
    have kp0 := (unhide HE).1
    have kp1 := (unhide HE).2
    go_wp2_with fail
    generalize w1.alloc (.cells #[.int .i64 m, .slice (some ⟨g, 0, none⟩) n cap] 25) = w2 at *
    generalize w1.heap.size = E at *
    refine (iNetVals_any m _ n _ G I q 0 N _ _ (unhide HD) (unhide HWG) (by omega) (by omega) hIl hq (unhide HI)).mono ?_
    rintro e w3 ⟨⟨a3, c3, rfl, v3, _⟩, b3⟩
    rw [← unhide HL] at v3
    rw [← unhide HLN] at v3
    rw [← unhide HL, ← unhide HLN]
    have HV := hide v3
    clear kp0 kp1
    have HE := hide ((unhide HE).later b3)
    have HD := hide ((unhide HD).later b3)
    have HI := hide ((unhide HI).later b3)
    have BL := BL.trans (b3.mono BL.size)
    have hq := Nat.lt_of_lt_of_le hq b3.size
    clear v3 b3
    have kp0 := (unhide HE).1
    have kp1 := (unhide HE).2
    go_wp2
    refine wp_region_held_drew (S := fun w' => w'.cell? ⟨E, 0, none⟩ = some (.int .i64 m) ∧ w'.cell? ⟨E, 1, none⟩ = some (.slice (some ⟨g, 0, none⟩) n cap)) (by kernel_rfl) ?_ (fun hHeld => ?_)
    · exact ⟨kp0, kp1⟩
    refine wpAnyH_take (i := 0) (v := ?_) rfl (by kernel_rfl) (by kernel_rfl) (by kernel_rfl) (fun _ _ _ h => h) (Or.inl ⟨by rfl, ?_⟩) (by assumption) ?_
    rotate_left
    · (intro w hSw; (try dsimp only at hSw); first | (go_simp; done) | (go_simp; with_reducible rfl))
    try simp only [List.getElem_toArray, List.getElem_cons_succ, List.getElem_cons_zero, Act.put, List.setIfInBounds_toArray, List.set_cons_zero, List.set_cons_succ]
    refine wpAnyH_take (i := 1) (v := ?_) rfl (by kernel_rfl) (by kernel_rfl) (by kernel_rfl) (fun _ _ _ h => h) (Or.inl ⟨by rfl, ?_⟩) (by assumption) ?_
    rotate_left
    · (intro w hSw; (try dsimp only at hSw); first | (go_simp; done) | (go_simp; with_reducible rfl))
    try simp only [List.getElem_toArray, List.getElem_cons_succ, List.getElem_cons_zero, Act.put, List.setIfInBounds_toArray, List.set_cons_zero, List.set_cons_succ]
    refine wpAnyH_take (i := 2) (v := ?_) rfl (by kernel_rfl) (by kernel_rfl) (by kernel_rfl) (fun _ _ _ h => h) (Or.inl ⟨by rfl, ?_⟩) (by assumption) ?_
    rotate_left
    · (intro w hSw; (try dsimp only at hSw); first | (go_simp; done) | (go_simp; with_reducible rfl))
    try simp only [List.getElem_toArray, List.getElem_cons_succ, List.getElem_cons_zero, Act.put, List.setIfInBounds_toArray, List.set_cons_zero, List.set_cons_succ]
    refine wpAnyH_ready (rs := [3]) (by kernel_rfl) (by simp) ?_
    refine AllReadyH.cons rfl (fun K hK => ?_) AllReadyH.nil
    go_simp
    refine (sNetVals_any m _ n _ G I q 0 N _ _ (by exact (unhide HD)) (unhide HWG) (by omega) (by omega) hIl (by exact hq) (by exact (unhide HI))).mono ?_
    rintro e w4 ⟨⟨a4, c4, rfl, v4⟩, b4⟩
    rw [← unhide HL] at v4
    rw [← unhide HLN] at v4
    clear kp0 kp1
    have HE := hide (NBox.later (by exact (unhide HE)) b4)
    have HV := hide (BlsAt.later (by exact (unhide HV)) b4)
    have HD := hide (GtsAt.later (by exact (unhide HD)) b4)
    have HI := hide (Bls.later (by exact (unhide HI)) b4)
    have BL := (by first | exact BL.trans (b4.mono BL.size) | exact BL.drew.trans (b4.mono BL.size))
    have hq := Nat.lt_of_lt_of_le hq b4.size
    have HV4 := hide v4
    clear v4 b4
    (try rw [← unhide HL])
    (try rw [← unhide HLN])
    have kp0 := (unhide HE).1
    have kp1 := (unhide HE).2
    go_wp2_with fail
    refine hK.out _ _ ?_ (fun hHeld => ?_)
    · exact ⟨kp0, kp1⟩
    clear hK K
    try simp only [List.getElem_toArray, List.getElem_cons_succ, List.getElem_cons_zero, Act.put, List.setIfInBounds_toArray, List.set_cons_zero, List.set_cons_succ]
    refine wpAnyH_ready (rs := [4]) (by kernel_rfl) (by simp) ?_
    refine AllReadyH.cons rfl (fun K hK => ?_) AllReadyH.nil
    go_simp
    refine (wpBools_same _ _ _ _ _ _ _ (by exact (unhide HV)) (unhide HV4) hl).mono ?_
    rintro e w5 ⟨rfl, b5⟩
    clear kp0 kp1
    have HE := hide (NBox.later (by exact (unhide HE)) b5)
    have HV := hide (BlsAt.later (by exact (unhide HV)) b5)
    have HD := hide (GtsAt.later (by exact (unhide HD)) b5)
    have HI := hide (Bls.later (by exact (unhide HI)) b5)
    have BL := (by first | exact BL.trans (b5.mono BL.size) | exact BL.drew.trans (b5.mono BL.size))
    have hq := Nat.lt_of_lt_of_le hq b5.size
    clear b5 HV4
    have kp0 := (unhide HE).1
    have kp1 := (unhide HE).2
    go_wp2_with fail
    refine hK.out _ _ ?_ (fun hHeld => ?_)
    · exact ⟨kp0, kp1⟩
    clear hK K
    try simp only [List.getElem_toArray, List.getElem_cons_succ, List.getElem_cons_zero, Act.put, List.setIfInBounds_toArray, List.set_cons_zero, List.set_cons_succ]
    refine wpAnyH_take (i := 5) (v := ?_) rfl (by kernel_rfl) (by kernel_rfl) (by kernel_rfl) (fun _ _ _ h => h) (Or.inl ⟨by rfl, ?_⟩) (by assumption) ?_
    rotate_left
    · (intro w hSw; (try dsimp only at hSw); first | (go_simp; done) | (go_simp; with_reducible rfl))
    try simp only [List.getElem_toArray, List.getElem_cons_succ, List.getElem_cons_zero, Act.put, List.setIfInBounds_toArray, List.set_cons_zero, List.set_cons_succ]
    refine wpAnyH_take (i := 6) (v := ?_) rfl (by kernel_rfl) (by kernel_rfl) (by kernel_rfl) (fun _ _ _ h => h) (Or.inl ⟨by rfl, ?_⟩) (by assumption) ?_
    rotate_left
    · (intro w hSw; (try dsimp only at hSw); first | (go_simp; done) | (go_simp; with_reducible rfl))
    try simp only [List.getElem_toArray, List.getElem_cons_succ, List.getElem_cons_zero, Act.put, List.setIfInBounds_toArray, List.set_cons_zero, List.set_cons_succ]
    refine wpAnyH_take (i := 7) (v := ?_) rfl (by kernel_rfl) (by kernel_rfl) (by kernel_rfl) (fun _ _ _ h => h) (Or.inl ⟨by rfl, ?_⟩) (by assumption) ?_
    rotate_left
    · (intro w hSw; (try dsimp only at hSw); first | (go_simp; done) | (go_simp; with_reducible rfl))
    try simp only [List.getElem_toArray, List.getElem_cons_succ, List.getElem_cons_zero, Act.put, List.setIfInBounds_toArray, List.set_cons_zero, List.set_cons_succ]
    refine wpAnyH_take (i := 9) (v := ?_) rfl (by kernel_rfl) (by kernel_rfl) (by kernel_rfl) (fun _ _ _ h => h) (Or.inl ⟨by rfl, ?_⟩) (by assumption) ?_
    rotate_left
    · (intro w hSw; (try dsimp only at hSw); first | (go_simp; done) | (go_simp; with_reducible rfl))
    try simp only [List.getElem_toArray, List.getElem_cons_succ, List.getElem_cons_zero, Act.put, List.setIfInBounds_toArray, List.set_cons_zero, List.set_cons_succ]
    refine wpAnyH_ready (rs := [8]) (by kernel_rfl) (by simp) ?_
    refine AllReadyH.cons rfl (fun K hK => ?_) AllReadyH.nil
    go_simp
    refine (iNetOk_any m _ n _ G _ (by exact (unhide HD)) (unhide HWG) (by omega)).mono ?_
    rintro e w6 ⟨rfl, b6⟩
    clear kp0 kp1
    have HE := hide (NBox.later (by exact (unhide HE)) b6)
    have HV := hide (BlsAt.later (by exact (unhide HV)) b6)
    have HD := hide (GtsAt.later (by exact (unhide HD)) b6)
    have HI := hide (Bls.later (by exact (unhide HI)) b6)
    have BL := (by first | exact BL.trans (b6.mono BL.size) | exact BL.drew.trans (b6.mono BL.size))
    have hq := Nat.lt_of_lt_of_le hq b6.size
    clear b6
    have kp0 := (unhide HE).1
    have kp1 := (unhide HE).2
    go_wp2_with fail
    refine hK.out _ _ ?_ (fun hHeld => ?_)
    · exact ⟨kp0, kp1⟩
    clear hK K
    try simp only [List.getElem_toArray, List.getElem_cons_succ, List.getElem_cons_zero, Act.put, List.setIfInBounds_toArray, List.set_cons_zero, List.set_cons_succ]
    refine wpAnyH_ready (rs := [10]) (by kernel_rfl) (by simp) ?_
    refine AllReadyH.cons rfl (fun K hK => ?_) AllReadyH.nil
    go_simp
    refine (sNetOk_any m _ n _ G _ (by exact (unhide HD)) (unhide HWG) (by omega)).mono ?_
    rintro e w7 ⟨rfl, b7⟩
    clear kp0 kp1
    have HE := hide (NBox.later (by exact (unhide HE)) b7)
    have HV := hide (BlsAt.later (by exact (unhide HV)) b7)
    have HD := hide (GtsAt.later (by exact (unhide HD)) b7)
    have HI := hide (Bls.later (by exact (unhide HI)) b7)
    have BL := (by first | exact BL.trans (b7.mono BL.size) | exact BL.drew.trans (b7.mono BL.size))
    have hq := Nat.lt_of_lt_of_le hq b7.size
    clear b7
    have kp0 := (unhide HE).1
    have kp1 := (unhide HE).2
    go_wp2_with fail
    refine hK.out _ _ ?_ (fun hHeld => ?_)
    · exact ⟨kp0, kp1⟩
    clear hK K
    try simp only [List.getElem_toArray, List.getElem_cons_succ, List.getElem_cons_zero, Act.put, List.setIfInBounds_toArray, List.set_cons_zero, List.set_cons_succ]
    refine wpAnyH_take (i := 11) (v := ?_) rfl (by kernel_rfl) (by kernel_rfl) (by kernel_rfl) (fun _ _ _ h => h) (Or.inl ⟨by rfl, ?_⟩) (by assumption) ?_
    rotate_left
    · (intro w hSw; (try dsimp only at hSw); first | (go_simp; done) | (go_simp; with_reducible rfl))
    try simp only [List.getElem_toArray, List.getElem_cons_succ, List.getElem_cons_zero, Act.put, List.setIfInBounds_toArray, List.set_cons_zero, List.set_cons_succ]
    refine wpAnyH_take (i := 12) (v := ?_) rfl (by kernel_rfl) (by kernel_rfl) (by kernel_rfl) (fun _ _ _ h => h) (Or.inl ⟨by rfl, ?_⟩) (by assumption) ?_
    rotate_left
    · (intro w hSw; (try dsimp only at hSw); first | (go_simp; done) | (go_simp; with_reducible rfl))
    try simp only [List.getElem_toArray, List.getElem_cons_succ, List.getElem_cons_zero, Act.put, List.setIfInBounds_toArray, List.set_cons_zero, List.set_cons_succ]
    refine wpAnyH_done (by kernel_rfl) ?_ _
    clear kp0 kp1
    have kp0 := (unhide HE).1
    have kp1 := (unhide HE).2
    have nb : (netB m n G != netB m n G) = false := by simp
    go_wp2_with fail
    refine (sNetOk_any m _ n _ G _ (unhide HD) (unhide HWG) (by omega)).mono ?_
    rintro e w8 ⟨rfl, b8⟩
    clear kp0 kp1 nb
    have HE := hide ((unhide HE).later b8)
    have HV := hide ((unhide HV).later b8)
    have HD := hide ((unhide HD).later b8)
    have HI := hide ((unhide HI).later b8)
    have BL := BL.trans (b8.mono BL.size)
    have hq := Nat.lt_of_lt_of_le hq b8.size
    clear b8
    have kp0 := (unhide HE).1
    have kp1 := (unhide HE).2
    cases hP : netB m n G
    · have hz : ln = 0 := by rw [unhide HLN, unhide HL, nvL_no (fun h => by rw [hP] at h; exact absurd h.1 (by simp))]; rfl
      have kb : ((ln : Int) == 0) = true := by simp [hz]
      clear hz hP
      go_wp2
      go_ret
      exact ⟨rfl, BL⟩
    · by_cases hmN : (N : Int) = m
      · subst hmN
        obtain ⟨_, _, hn6, hgs⟩ := netB_iff.1 hP
        have HGS := hide hgs
        have HLO : Hid (L = outL I G n) := by
          have e := unhide HL
          rw [nvL_yes hP (by rw [unhide HIL])] at e
          exact e
        have hln : ln = 1 + N + n := by rw [unhide HLN, unhide HLO, outL_len, unhide HIL]
        have kb : ((N : Int) != (N : Int)) = false := by simp
        subst hln
        clear hgs hP HLN HL hIl
        obtain ⟨bv, ov, ha3, hbv, hdv⟩ := (unhide HV).ok (show 0 < 1 + N + n by omega)
        subst ha3
        have HDV := hide hdv
        have HF1 : Hid (∀ k, k < N → atB L (1 + k) = atB I k) := fun k hk => by rw [unhide HLO]; exact outL_ins (by rw [unhide HIL]; exact hk)
        have HF2 : Hid (∀ k, k < n → atB L (1 + N + k) = if (G k).x then metB (G k).a (1 + N + n) (atB L) != metB (G k).b (1 + N + n) (atB L) else metB (G k).a (1 + N + n) (atB L) && metB (G k).b (1 + N + n) (atB L)) := fun k hk => by
          have h := outL_gate (I := I) (G := G) (n := n) (m := (N : Int)) (by rw [unhide HIL]) hk (unhide HGS k hk).1
          rw [unhide HIL] at h
          rw [unhide HLO]; exact h
        have HF0 : Hid (atB L 0 = true) := by rw [unhide HLO]; exact outL_top
        clear hdv
        go_wp2
        go_loopw [6] (fun i wr => ∃ k : Nat, k ≤ N ∧ i = .int .i64 (k : Int) ∧ Below w8.heap.size w8 wr) (fun i _ => N - (intOf i).toNat)
        case atStart => exact ⟨0, by omega, rfl, (by repeat (first | exact Below.refl _ _ | assumption | refine below_drewN ?_ _ | refine Below.drew ?_ | refine Below.alloc ?_ (by first | exact Nat.le_refl _ | exact Below.size (by assumption) | (simp; done) | (simp; omega)) _ | refine Below.setCell ?_ (by first | exact Nat.le_refl _ | exact Below.size (by assumption) | (simp; done) | (simp; omega)) _ | refine Below.trans ?_ (by assumption)))⟩
        case round =>
          obtain ⟨k, hk, rfl, hb⟩ := hrel
          have ke0 := cell_later hb kp0
          have ke1 := cell_later hb kp1
          by_cases hlt : k < N
          · have d0 := cell_later hb (unhide HDV (1 + k) (by omega))
            rw [unhide HF1 k hlt] at d0
            have g0 := cell_later hb (unhide HI k hlt)
            rw [Nat.zero_add] at g0
            have kk : (atB I k != atB I k) = false := by simp
            have hi1 : (1 : Int) + (k : Int) < ((1 + N + n : Nat) : Int) := by omega
            go_wp2
            go_region
            all_goals go_wp2
            all_goals go_roundw
            all_goals first | exact ⟨k + 1, by omega, by go_num, (by first | exact hb | exact hb.drew)⟩ | (simp [intOf]; omega)
          · have ek : k = N := by omega
            subst ek
            have B2 := hb
            clear hb ke0 ke1 hlt hk
            have HE := hide ((unhide HE).later B2)
            have HV := hide ((unhide HV).later B2)
            have HD := hide ((unhide HD).later B2)
            have HDV := hide (Bls.later (unhide HDV) B2)
            have BL := BL.trans (B2.mono BL.size)
            clear kp0 kp1 B2 kb
            have kp0 := (unhide HE).1
            have kp1 := (unhide HE).2
            go_wp2
            go_loopw [7] (fun i wx => ∃ j : Nat, j ≤ n ∧ i = .int .i64 (j : Int) ∧ Below wr.heap.size wr wx) (fun i _ => n - (intOf i).toNat)
            case atStart => exact ⟨0, by omega, rfl, Below.refl _ _⟩
            case round =>
              obtain ⟨j, hj, rfl, hb⟩ := hrel
              have ke0 := cell_later hb kp0
              have ke1 := cell_later hb kp1
              have hvx := hide ((unhide HV).later hb)
              by_cases hlt : j < n
              · obtain ⟨gb, go, ge, hgb, hgt⟩ := ((unhide HD).later hb).ok hlt
                cases ge
                obtain ⟨x0, x1, x2⟩ := hgt j hlt
                rw [Nat.zero_add] at x0 x1 x2
                have d0 := cell_later hb (unhide HDV (1 + k + j) (by omega))
                obtain ⟨wa, wb⟩ := unhide HWG j hlt
                have hv := unhide HF2 j hlt
                rw [hv] at d0
                clear hv hgt
                go_wp2_with fail
                refine (iNetLit_any _ _ _ _ _ _ wa (unhide hvx) (by omega)).mono ?_
                rintro e wy ⟨rfl, hwy⟩
                subst hwy
                go_wp2_with fail
                refine (iNetLit_any _ _ _ _ _ _ wb (unhide hvx) (by omega)).mono ?_
                rintro e wy ⟨rfl, hwy⟩
                subst hwy
                have hi2 : (1 : Int) + (k : Int) + (j : Int) < ((1 + k + n : Nat) : Int) := by omega
                clear hvx wa wb
                generalize metB (G j).a (1 + k + n) (atB L) = A at *
                generalize metB (G j).b (1 + k + n) (atB L) = B at *
                generalize (G j).x = x at *
                cases x <;> cases A <;> cases B
                · replace d0 : wy.cell? ⟨bv, ov + (1 + k + j), none⟩ = some (.bool false) := d0
                  go_wp2
                  go_region
                  all_goals go_wp2
                  all_goals go_roundw
                  all_goals first | exact ⟨j + 1, by omega, by go_num, (by first | exact hb | exact hb.drew)⟩ | (simp [intOf]; omega)
                · replace d0 : wy.cell? ⟨bv, ov + (1 + k + j), none⟩ = some (.bool false) := d0
                  go_wp2
                  go_region
                  all_goals go_wp2
                  all_goals go_roundw
                  all_goals first | exact ⟨j + 1, by omega, by go_num, (by first | exact hb | exact hb.drew)⟩ | (simp [intOf]; omega)
                · replace d0 : wy.cell? ⟨bv, ov + (1 + k + j), none⟩ = some (.bool false) := d0
                  go_wp2
                  go_region
                  all_goals go_wp2
                  all_goals go_roundw
                  all_goals first | exact ⟨j + 1, by omega, by go_num, (by first | exact hb | exact hb.drew)⟩ | (simp [intOf]; omega)
                · replace d0 : wy.cell? ⟨bv, ov + (1 + k + j), none⟩ = some (.bool true) := d0
                  go_wp2
                  go_region
                  all_goals go_wp2
                  all_goals go_roundw
                  all_goals first | exact ⟨j + 1, by omega, by go_num, (by first | exact hb | exact hb.drew)⟩ | (simp [intOf]; omega)
                · replace d0 : wy.cell? ⟨bv, ov + (1 + k + j), none⟩ = some (.bool false) := d0
                  go_wp2
                  go_region
                  all_goals go_wp2
                  all_goals go_roundw
                  all_goals first | exact ⟨j + 1, by omega, by go_num, (by first | exact hb | exact hb.drew)⟩ | (simp [intOf]; omega)
                · replace d0 : wy.cell? ⟨bv, ov + (1 + k + j), none⟩ = some (.bool true) := d0
                  go_wp2
                  go_region
                  all_goals go_wp2
                  all_goals go_roundw
                  all_goals first | exact ⟨j + 1, by omega, by go_num, (by first | exact hb | exact hb.drew)⟩ | (simp [intOf]; omega)
                · replace d0 : wy.cell? ⟨bv, ov + (1 + k + j), none⟩ = some (.bool true) := d0
                  go_wp2
                  go_region
                  all_goals go_wp2
                  all_goals go_roundw
                  all_goals first | exact ⟨j + 1, by omega, by go_num, (by first | exact hb | exact hb.drew)⟩ | (simp [intOf]; omega)
                · replace d0 : wy.cell? ⟨bv, ov + (1 + k + j), none⟩ = some (.bool false) := d0
                  go_wp2
                  go_region
                  all_goals go_wp2
                  all_goals go_roundw
                  all_goals first | exact ⟨j + 1, by omega, by go_num, (by first | exact hb | exact hb.drew)⟩ | (simp [intOf]; omega)
              · have ej : j = n := by omega
                subst ej
                have z0 := cell_later hb (unhide HDV 0 (by omega))
                rw [unhide HF0, Nat.add_zero] at z0
                go_wp2
                go_ret
                exact ⟨rfl, BL.trans (hb.mono BL.size)⟩
      · have hz : ln = 0 := by rw [unhide HLN, unhide HL, nvL_no (fun h => hmN (by rw [← unhide HIL]; exact h.2))]; rfl
        have kb : ((ln : Int) == 0) = true := by simp [hz]
        have kc : ((N : Int) != m) = true := by simp [hmN]
        clear hz hP
        go_wp2
        go_ret
        exact ⟨rfl, BL⟩
  · go_enter Try.func3, Try.ntmps3
    go_wp2
    go_ret
    exact ⟨rfl, (by repeat (first | exact Below.refl _ _ | assumption | refine below_drewN ?_ _ | refine Below.drew ?_ | refine Below.alloc ?_ (by first | exact Nat.le_refl _ | exact Below.size (by assumption) | (simp; done) | (simp; omega)) _ | refine Below.setCell ?_ (by first | exact Nat.le_refl _ | exact Below.size (by assumption) | (simp; done) | (simp; omega)) _ | refine Below.trans ?_ (by assumption)))⟩

set_option maxRecDepth 100000 in
theorem lifted (os : Os) (started : os.Started) (H : Type) (enc : TypeId × Value → H) :
    ReturnsInHanded {} Try.checked os 3 .any (Rows.fnNetValsSpec.pre6 enc Try.prog Try.f3 Rows.fnNetValsRow.domain false) (Rows.fnNetValsSpec.post enc Try.prog Try.f3 false true false false) := by
  refine returnsInHanded_of_change (C := Try.checked) own started (by kernel_rfl) Try.func3
    (ChangeSpec.witness6 (enc := enc) (C := Try.checked) false ⟨#[], #[.slice none 0 0], []⟩ 8 (by kernel_rfl) (by kernel_rfl) (by kernel_rfl) (by kernel_rfl)) ?_
  intro W base args ds gs before hval0 hW hcnd _
  have hval : ∀ (j : Nat) t v, Try.f3.params[j]? = some t → args[j]? = some v → Value.okWide Try.prog W .any base t v := hval0
  have hW' := hW
  obtain ⟨p, q, hA0, hV, rfl, hfz, hnd⟩ := hW
  have hA : DataW.TrodAll enc Try.prog W 0 (fun _ => true) true Try.f3.params.toList args.toList ds p := hA0
  rw [Try.params3] at hA hval
  obtain ⟨v0, vs0, d0, ds0, p0, q0, hargs, rfl, rfl, h0, r0⟩ := trodAll_cons hA
  obtain ⟨rfl, rfl, rfl⟩ := trodAll_nil r0
  obtain rfl : args = #[v0] := by cases args; simp_all
  obtain ⟨rfl, rfl⟩ := trodVars_none hV
  obtain ⟨code, lencode, capcode, rfl⟩ := okWide_slice Try.underlying22 (hval 0 22 v0 rfl rfl)
  have k0 := h0
  have lt0 : ∀ x ∈ p0, x.block < W.heap.size := by obtain ⟨m, hm⟩ := k0; exact DataW.trod_lt m _ _ _ hm
  obtain ⟨zcode, wcode⟩ : ∃ zs, IsRow .u8 W code lencode capcode zs := by
    obtain ⟨fuel, hf⟩ := h0
    rcases open_ints Try.underlying22 Try.underlying5 (by kernel_rfl) hf with ⟨hcs, _⟩ | ⟨x, l, c, zs, hcs, _, hl, hm, hz, _, hcell, hwz⟩
    · simp [Value.cells] at hcs
      obtain ⟨rfl, rfl, rfl⟩ := hcs
      exact ⟨[], .inl ⟨rfl, rfl, rfl, rfl⟩⟩
    · simp [Value.cells] at hcs
      obtain ⟨rfl, rfl, rfl⟩ := hcs
      exact ⟨zs, .inr ⟨_, rfl, hl, hm, by simpa using hz, hcell, hwz⟩⟩
  clear hA0 hval0
  refine (walk code lencode capcode zcode W wcode).mono fun e W' ⟨he, bel⟩ => ?_
  subst he
  exact ⟨_, rfl, _, _, _, [], _, [], hW', trodAll_mk1 (shut_bool Try.underlying4 _), (trodAll_cons_mk (Below.trod laidOut (by kernel_rfl) (of_decide_eq_true (by kernel_rfl)) k0 bel lt0) trodAll_mk0), rfl, bel.frame _, fun h => by cases h⟩

theorem over : Rows.fnNetValsRow.holds Try.pinned (OpenSpec.ofChange Rows.fnNetValsSpec) :=
  OpenClaim.holds_of_wide 3 Try.f3 rfl rfl rfl rfl rfl rfl rfl ⟨rfl, rfl, rfl, rfl, rfl⟩ rfl rfl rfl rfl rfl (by kernel_rfl) Try.func3 (by kernel_rfl)
    (of_decide_eq_true (by kernel_rfl)) (by unfold Func.isWrapper; first | (rw [if_pos (by decide +kernel)]; kernel_rfl) | (rw [if_neg (by decide +kernel)]; exact ⟨rfl, rfl⟩))
    (fun os started H enc _ => lifted os started H enc)
end nVals

theorem nVals_holds : Rows.FnNetValsSaid := nVals.over
#print axioms nVals_holds
end Go.Proofs.Ytbfijmijhfbkdaa
