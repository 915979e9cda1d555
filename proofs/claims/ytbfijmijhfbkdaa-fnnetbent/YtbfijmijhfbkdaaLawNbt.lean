/- Malformed nets are refused: the law FnNetBent returns true for every code of bytes, and leaves it as it was. No condition (the law itself answers true where the code is longer than 1048576 bytes). -/
import Derived.Test.YtbfijmijhfbkdaaDnE
import Derived.Test.YtbfijmijhfbkdaaGsB
import Derived.Test.YtbfijmijhfbkdaaRowC
namespace Go.Proofs.Ytbfijmijhfbkdaa
open Go.ChangeShapes Go.WideShapes Go.ChangeAt Go.RowKit Go.Joins
open Go.ChangeMaps (open_string shut_string)
set_option linter.unusedVariables false
set_option linter.unusedSimpArgs false

namespace nBent
set_option maxRecDepth 100000 in
set_option maxHeartbeats 4000000 in
theorem walk (code : Option Addr) (lencode capcode : Nat) (zcode : List Int) (w : World) (wcode : IsRow .u8 w code lencode capcode zcode) :
    Calls Try.prog 7 #[.slice code lencode capcode] w fun e w' => e = .returned (.bool true) ∧ Below w.heap.size w w' := by
  obtain ⟨hby, hlc, hcm⟩ := wcode.byts
  by_cases hl0 : lencode ≤ 1048576
  · go_enter Try.func7, Try.ntmps7
    go_wp2_with fail
    refine (drawNetSame_any _ _ _ _ hl0 hlc hcm hby).mono ?_
    rintro e w1 ⟨m, ad, n, cap, G, m', g', n', cap', G', rfl, ⟨hm0, hm4⟩, hn, hn', nn, sp, Dn, wg, Do, wg', BL⟩
    clear wcode hby
    have hspot : Hid (∀ p, ad = some p → p.spot = none) := fun p hp => (sp p hp).1
    have hlow : Hid (∀ p, ad = some p → p.block < w1.heap.size) := fun p hp => (sp p hp).2
    have HWG := hide wg
    have HWF := hide wg'
    have HNN := hide nn
    obtain ⟨w2, hw2⟩ : ∃ w2, w2 = (w1.alloc (.cells #[.int .i64 m, .slice ad n cap] 25)).alloc (.cells #[.int .i64 m', .slice (some ⟨g', 0, none⟩) n' cap'] 25) := ⟨_, rfl⟩
    have b2 : Below w1.heap.size w1 w2 := by rw [hw2]; exact ((Below.refl _ _).alloc (Nat.le_refl _) _).alloc (by simp) _
    have HE : Hid (NBox w2 w1.heap.size m ad n cap) := by rw [hw2]; exact ⟨by simp [go_sem], by simp [go_sem]⟩
    have HO : Hid (NBox w2 (w1.heap.size + 1) m' (some ⟨g', 0, none⟩) n' cap') := by rw [hw2]; exact ⟨by simp [go_sem], by simp [go_sem]⟩
    have HD := hide (Dn.later b2)
    have HF := hide (Do.later b2)
    replace BL := BL.trans (b2.mono BL.size)
    have hE2 : w1.heap.size + 1 < w2.heap.size := by rw [hw2]; simp
    have HZ := hide hw2
    clear sp nn wg wg' Dn Do b2 hw2
    go_wp2
    rw [← unhide HZ]
    obtain ⟨O, hO⟩ : ∃ O, O = w1.heap.size + 1 := ⟨_, rfl⟩
    rw [← hO] at HO hE2 ⊢
    clear HZ hO
    generalize w1.heap.size = E at *
    have kp0 := (unhide HE).1
    have kp1 := (unhide HE).2
    have ko0 := (unhide HO).1
    have ko1 := (unhide HO).2
    try go_wp2
    refine wp_region_held_drew (S := fun w' => w'.cell? ⟨E, 0, none⟩ = some (.int .i64 m) ∧ w'.cell? ⟨E, 1, none⟩ = some (.slice ad n cap) ∧ w'.cell? ⟨O, 0, none⟩ = some (.int .i64 m') ∧ w'.cell? ⟨O, 1, none⟩ = some (.slice (some ⟨g', 0, none⟩) n' cap')) (by kernel_rfl) ?_ (fun hHeld => ?_)
    · exact ⟨kp0, kp1, ko0, ko1⟩
    refine wpAnyH_take (i := 0) (v := ?_) rfl (by kernel_rfl) (by kernel_rfl) (by kernel_rfl) (fun _ _ _ h => h) (Or.inl ⟨by rfl, ?_⟩) (by assumption) ?_
    rotate_left
    · (intro w hSw; (try dsimp only at hSw); first | (go_simp; done) | (go_simp; with_reducible rfl))
    try simp only [List.getElem_toArray, List.getElem_cons_succ, List.getElem_cons_zero, Act.put, List.setIfInBounds_toArray, List.set_cons_zero, List.set_cons_succ]
    refine wpAnyH_take (i := 1) (v := ?_) rfl (by kernel_rfl) (by kernel_rfl) (by kernel_rfl) (fun _ _ _ h => h) (Or.inl ⟨by rfl, ?_⟩) (by assumption) ?_
    rotate_left
    · (intro w hSw; (try dsimp only at hSw); first | (go_simp; done) | (go_simp; with_reducible rfl))
    try simp only [List.getElem_toArray, List.getElem_cons_succ, List.getElem_cons_zero, Act.put, List.setIfInBounds_toArray, List.set_cons_zero, List.set_cons_succ]
    refine wpAnyH_take (i := 3) (v := ?_) rfl (by kernel_rfl) (by kernel_rfl) (by kernel_rfl) (fun _ _ _ h => h) (Or.inl ⟨by rfl, ?_⟩) (by assumption) ?_
    rotate_left
    · (intro w hSw; (try dsimp only at hSw); first | (go_simp; done) | (go_simp; with_reducible rfl))
    try simp only [List.getElem_toArray, List.getElem_cons_succ, List.getElem_cons_zero, Act.put, List.setIfInBounds_toArray, List.set_cons_zero, List.set_cons_succ]
    refine wpAnyH_take (i := 4) (v := ?_) rfl (by kernel_rfl) (by kernel_rfl) (by kernel_rfl) (fun _ _ _ h => h) (Or.inl ⟨by rfl, ?_⟩) (by assumption) ?_
    rotate_left
    · (intro w hSw; (try dsimp only at hSw); first | (go_simp; done) | (go_simp; with_reducible rfl))
    try simp only [List.getElem_toArray, List.getElem_cons_succ, List.getElem_cons_zero, Act.put, List.setIfInBounds_toArray, List.set_cons_zero, List.set_cons_succ]
    refine wpAnyH_ready (rs := [2]) (by kernel_rfl) (by simp) ?_
    refine AllReadyH.cons rfl (fun K hK => ?_) AllReadyH.nil
    go_simp
    refine (iNetSame_any m m' _ _ n n' _ _ G G' _ (by exact (unhide HD)) (by exact (unhide HF)) (by omega) (by omega)).mono ?_
    rintro e w102 ⟨rfl, b102⟩
    clear kp0 kp1 ko0 ko1
    have HE := hide (NBox.later (by exact (unhide HE)) b102)
    have HO := hide (NBox.later (by exact (unhide HO)) b102)
    have HD := hide (GtsAt.later (by exact (unhide HD)) b102)
    have HF := hide (GtsAt.later (by exact (unhide HF)) b102)
    have BL := (by first | exact BL.trans (b102.mono BL.size) | exact BL.drew.trans (b102.mono BL.size))
    clear b102
    have kp0 := (unhide HE).1
    have kp1 := (unhide HE).2
    have ko0 := (unhide HO).1
    have ko1 := (unhide HO).2
    go_wp2_with fail
    refine hK.out _ _ ?_ (fun hHeld => ?_)
    · exact ⟨kp0, kp1, ko0, ko1⟩
    clear hK K
    try simp only [List.getElem_toArray, List.getElem_cons_succ, List.getElem_cons_zero, Act.put, List.setIfInBounds_toArray, List.set_cons_zero, List.set_cons_succ]
    refine wpAnyH_ready (rs := [5]) (by kernel_rfl) (by simp) ?_
    refine AllReadyH.cons rfl (fun K hK => ?_) AllReadyH.nil
    go_simp
    refine (sNetSame_any m m' _ _ n n' _ _ G G' _ (by exact (unhide HD)) (by exact (unhide HF)) (by omega) (by omega)).mono ?_
    rintro e w105 ⟨rfl, b105⟩
    clear kp0 kp1 ko0 ko1
    have HE := hide (NBox.later (by exact (unhide HE)) b105)
    have HO := hide (NBox.later (by exact (unhide HO)) b105)
    have HD := hide (GtsAt.later (by exact (unhide HD)) b105)
    have HF := hide (GtsAt.later (by exact (unhide HF)) b105)
    have BL := (by first | exact BL.trans (b105.mono BL.size) | exact BL.drew.trans (b105.mono BL.size))
    clear b105
    have kp0 := (unhide HE).1
    have kp1 := (unhide HE).2
    have ko0 := (unhide HO).1
    have ko1 := (unhide HO).2
    go_wp2_with fail
    refine hK.out _ _ ?_ (fun hHeld => ?_)
    · exact ⟨kp0, kp1, ko0, ko1⟩
    clear hK K
    try simp only [List.getElem_toArray, List.getElem_cons_succ, List.getElem_cons_zero, Act.put, List.setIfInBounds_toArray, List.set_cons_zero, List.set_cons_succ]
    refine wpAnyH_take (i := 6) (v := ?_) rfl (by kernel_rfl) (by kernel_rfl) (by kernel_rfl) (fun _ _ _ h => h) (Or.inl ⟨by rfl, ?_⟩) (by assumption) ?_
    rotate_left
    · (intro w hSw; (try dsimp only at hSw); first | (go_simp; done) | (go_simp; with_reducible rfl))
    try simp only [List.getElem_toArray, List.getElem_cons_succ, List.getElem_cons_zero, Act.put, List.setIfInBounds_toArray, List.set_cons_zero, List.set_cons_succ]
    refine wpAnyH_take (i := 7) (v := ?_) rfl (by kernel_rfl) (by kernel_rfl) (by kernel_rfl) (fun _ _ _ h => h) (Or.inl ⟨by rfl, ?_⟩) (by assumption) ?_
    rotate_left
    · (intro w hSw; (try dsimp only at hSw); first | (go_simp; done) | (go_simp; with_reducible rfl))
    try simp only [List.getElem_toArray, List.getElem_cons_succ, List.getElem_cons_zero, Act.put, List.setIfInBounds_toArray, List.set_cons_zero, List.set_cons_succ]
    refine wpAnyH_take (i := 8) (v := ?_) rfl (by kernel_rfl) (by kernel_rfl) (by kernel_rfl) (fun _ _ _ h => h) (Or.inl ⟨by rfl, ?_⟩) (by assumption) ?_
    rotate_left
    · (intro w hSw; (try dsimp only at hSw); first | (go_simp; done) | (go_simp; with_reducible rfl))
    try simp only [List.getElem_toArray, List.getElem_cons_succ, List.getElem_cons_zero, Act.put, List.setIfInBounds_toArray, List.set_cons_zero, List.set_cons_succ]
    refine wpAnyH_take (i := 9) (v := ?_) rfl (by kernel_rfl) (by kernel_rfl) (by kernel_rfl) (fun _ _ _ h => h) (Or.inl ⟨by rfl, ?_⟩) (by assumption) ?_
    rotate_left
    · (intro w hSw; (try dsimp only at hSw); first | (go_simp; done) | (go_simp; with_reducible rfl))
    try simp only [List.getElem_toArray, List.getElem_cons_succ, List.getElem_cons_zero, Act.put, List.setIfInBounds_toArray, List.set_cons_zero, List.set_cons_succ]
    refine wpAnyH_take (i := 11) (v := ?_) rfl (by kernel_rfl) (by kernel_rfl) (by kernel_rfl) (fun _ _ _ h => h) (Or.inl ⟨by rfl, ?_⟩) (by assumption) ?_
    rotate_left
    · (intro w hSw; (try dsimp only at hSw); first | (go_simp; done) | (go_simp; with_reducible rfl))
    try simp only [List.getElem_toArray, List.getElem_cons_succ, List.getElem_cons_zero, Act.put, List.setIfInBounds_toArray, List.set_cons_zero, List.set_cons_succ]
    refine wpAnyH_take (i := 12) (v := ?_) rfl (by kernel_rfl) (by kernel_rfl) (by kernel_rfl) (fun _ _ _ h => h) (Or.inl ⟨by rfl, ?_⟩) (by assumption) ?_
    rotate_left
    · (intro w hSw; (try dsimp only at hSw); first | (go_simp; done) | (go_simp; with_reducible rfl))
    try simp only [List.getElem_toArray, List.getElem_cons_succ, List.getElem_cons_zero, Act.put, List.setIfInBounds_toArray, List.set_cons_zero, List.set_cons_succ]
    refine wpAnyH_ready (rs := [10]) (by kernel_rfl) (by simp) ?_
    refine AllReadyH.cons rfl (fun K hK => ?_) AllReadyH.nil
    go_simp
    refine (iNetSame_any m m' _ _ n n' _ _ G G' _ (by exact (unhide HD)) (by exact (unhide HF)) (by omega) (by omega)).mono ?_
    rintro e w110 ⟨rfl, b110⟩
    clear kp0 kp1 ko0 ko1
    have HE := hide (NBox.later (by exact (unhide HE)) b110)
    have HO := hide (NBox.later (by exact (unhide HO)) b110)
    have HD := hide (GtsAt.later (by exact (unhide HD)) b110)
    have HF := hide (GtsAt.later (by exact (unhide HF)) b110)
    have BL := (by first | exact BL.trans (b110.mono BL.size) | exact BL.drew.trans (b110.mono BL.size))
    clear b110
    have kp0 := (unhide HE).1
    have kp1 := (unhide HE).2
    have ko0 := (unhide HO).1
    have ko1 := (unhide HO).2
    go_wp2_with fail
    refine hK.out _ _ ?_ (fun hHeld => ?_)
    · exact ⟨kp0, kp1, ko0, ko1⟩
    clear hK K
    try simp only [List.getElem_toArray, List.getElem_cons_succ, List.getElem_cons_zero, Act.put, List.setIfInBounds_toArray, List.set_cons_zero, List.set_cons_succ]
    refine wpAnyH_ready (rs := [13]) (by kernel_rfl) (by simp) ?_
    refine AllReadyH.cons rfl (fun K hK => ?_) AllReadyH.nil
    go_simp
    refine (iNetSame_any m' m _ _ n' n _ _ G' G _ (by exact (unhide HF)) (by exact (unhide HD)) (by omega) (by omega)).mono ?_
    rintro e w113 ⟨rfl, b113⟩
    rw [nsB_comm m' m n' n G' G]
    clear kp0 kp1 ko0 ko1
    have HE := hide (NBox.later (by exact (unhide HE)) b113)
    have HO := hide (NBox.later (by exact (unhide HO)) b113)
    have HD := hide (GtsAt.later (by exact (unhide HD)) b113)
    have HF := hide (GtsAt.later (by exact (unhide HF)) b113)
    have BL := (by first | exact BL.trans (b113.mono BL.size) | exact BL.drew.trans (b113.mono BL.size))
    clear b113
    have kp0 := (unhide HE).1
    have kp1 := (unhide HE).2
    have ko0 := (unhide HO).1
    have ko1 := (unhide HO).2
    go_wp2_with fail
    refine hK.out _ _ ?_ (fun hHeld => ?_)
    · exact ⟨kp0, kp1, ko0, ko1⟩
    clear hK K
    try simp only [List.getElem_toArray, List.getElem_cons_succ, List.getElem_cons_zero, Act.put, List.setIfInBounds_toArray, List.set_cons_zero, List.set_cons_succ]
    refine wpAnyH_take (i := 14) (v := ?_) rfl (by kernel_rfl) (by kernel_rfl) (by kernel_rfl) (fun _ _ _ h => h) (Or.inl ⟨by rfl, ?_⟩) (by assumption) ?_
    rotate_left
    · (intro w hSw; (try dsimp only at hSw); first | (go_simp; done) | (go_simp; with_reducible rfl))
    try simp only [List.getElem_toArray, List.getElem_cons_succ, List.getElem_cons_zero, Act.put, List.setIfInBounds_toArray, List.set_cons_zero, List.set_cons_succ]
    refine wpAnyH_take (i := 15) (v := ?_) rfl (by kernel_rfl) (by kernel_rfl) (by kernel_rfl) (fun _ _ _ h => h) (Or.inl ⟨by rfl, ?_⟩) (by assumption) ?_
    rotate_left
    · (intro w hSw; (try dsimp only at hSw); first | (go_simp; done) | (go_simp; with_reducible rfl))
    try simp only [List.getElem_toArray, List.getElem_cons_succ, List.getElem_cons_zero, Act.put, List.setIfInBounds_toArray, List.set_cons_zero, List.set_cons_succ]
    refine wpAnyH_take (i := 16) (v := ?_) rfl (by kernel_rfl) (by kernel_rfl) (by kernel_rfl) (fun _ _ _ h => h) (Or.inl ⟨by rfl, ?_⟩) (by assumption) ?_
    rotate_left
    · (intro w hSw; (try dsimp only at hSw); first | (go_simp; done) | (go_simp; with_reducible rfl))
    try simp only [List.getElem_toArray, List.getElem_cons_succ, List.getElem_cons_zero, Act.put, List.setIfInBounds_toArray, List.set_cons_zero, List.set_cons_succ]
    refine wpAnyH_take (i := 17) (v := ?_) rfl (by kernel_rfl) (by kernel_rfl) (by kernel_rfl) (fun _ _ _ h => h) (Or.inl ⟨by rfl, ?_⟩) (by assumption) ?_
    rotate_left
    · (intro w hSw; (try dsimp only at hSw); first | (go_simp; done) | (go_simp; with_reducible rfl))
    try simp only [List.getElem_toArray, List.getElem_cons_succ, List.getElem_cons_zero, Act.put, List.setIfInBounds_toArray, List.set_cons_zero, List.set_cons_succ]
    refine wpAnyH_take (i := 18) (v := ?_) rfl (by kernel_rfl) (by kernel_rfl) (by kernel_rfl) (fun _ _ _ h => h) (Or.inl ⟨by rfl, ?_⟩) (by assumption) ?_
    rotate_left
    · (intro w hSw; (try dsimp only at hSw); first | (go_simp; done) | (go_simp; with_reducible rfl))
    try simp only [List.getElem_toArray, List.getElem_cons_succ, List.getElem_cons_zero, Act.put, List.setIfInBounds_toArray, List.set_cons_zero, List.set_cons_succ]
    refine wpAnyH_ready (rs := [19]) (by kernel_rfl) (by simp) ?_
    refine AllReadyH.cons rfl (fun K hK => ?_) AllReadyH.nil
    go_simp
    refine (iNetSame_any m m _ _ n n _ _ G G _ (by exact (unhide HD)) (by exact (unhide HD)) (by omega) (by omega)).mono ?_
    rintro e w119 ⟨rfl, b119⟩
    rw [nsB_self]
    clear kp0 kp1 ko0 ko1
    have HE := hide (NBox.later (by exact (unhide HE)) b119)
    have HO := hide (NBox.later (by exact (unhide HO)) b119)
    have HD := hide (GtsAt.later (by exact (unhide HD)) b119)
    have HF := hide (GtsAt.later (by exact (unhide HF)) b119)
    have BL := (by first | exact BL.trans (b119.mono BL.size) | exact BL.drew.trans (b119.mono BL.size))
    clear b119
    have kp0 := (unhide HE).1
    have kp1 := (unhide HE).2
    have ko0 := (unhide HO).1
    have ko1 := (unhide HO).2
    go_wp2_with fail
    refine hK.out _ _ ?_ (fun hHeld => ?_)
    · exact ⟨kp0, kp1, ko0, ko1⟩
    clear hK K
    try simp only [List.getElem_toArray, List.getElem_cons_succ, List.getElem_cons_zero, Act.put, List.setIfInBounds_toArray, List.set_cons_zero, List.set_cons_succ]
    refine wpAnyH_take (i := 20) (v := ?_) rfl (by kernel_rfl) (by kernel_rfl) (by kernel_rfl) (fun _ _ _ h => h) (Or.inl ⟨by rfl, ?_⟩) (by assumption) ?_
    rotate_left
    · (intro w hSw; (try dsimp only at hSw); first | (go_simp; done) | (go_simp; with_reducible rfl))
    try simp only [List.getElem_toArray, List.getElem_cons_succ, List.getElem_cons_zero, Act.put, List.setIfInBounds_toArray, List.set_cons_zero, List.set_cons_succ]
    refine wpAnyH_take (i := 21) (v := ?_) rfl (by kernel_rfl) (by kernel_rfl) (by kernel_rfl) (fun _ _ _ h => h) (Or.inl ⟨by rfl, ?_⟩) (by assumption) ?_
    rotate_left
    · (intro w hSw; (try dsimp only at hSw); first | (go_simp; done) | (go_simp; with_reducible rfl))
    try simp only [List.getElem_toArray, List.getElem_cons_succ, List.getElem_cons_zero, Act.put, List.setIfInBounds_toArray, List.set_cons_zero, List.set_cons_succ]
    refine wpAnyH_take (i := 22) (v := ?_) rfl (by kernel_rfl) (by kernel_rfl) (by kernel_rfl) (fun _ _ _ h => h) (Or.inl ⟨by rfl, ?_⟩) (by assumption) ?_
    rotate_left
    · (intro w hSw; (try dsimp only at hSw); first | (go_simp; done) | (go_simp; with_reducible rfl))
    try simp only [List.getElem_toArray, List.getElem_cons_succ, List.getElem_cons_zero, Act.put, List.setIfInBounds_toArray, List.set_cons_zero, List.set_cons_succ]
    refine wpAnyH_take (i := 23) (v := ?_) rfl (by kernel_rfl) (by kernel_rfl) (by kernel_rfl) (fun _ _ _ h => h) (Or.inl ⟨by rfl, ?_⟩) (by assumption) ?_
    rotate_left
    · (intro w hSw; (try dsimp only at hSw); first | (go_simp; done) | (go_simp; with_reducible rfl))
    try simp only [List.getElem_toArray, List.getElem_cons_succ, List.getElem_cons_zero, Act.put, List.setIfInBounds_toArray, List.set_cons_zero, List.set_cons_succ]
    refine wpAnyH_take (i := 25) (v := ?_) rfl (by kernel_rfl) (by kernel_rfl) (by kernel_rfl) (fun _ _ _ h => h) (Or.inl ⟨by rfl, ?_⟩) (by assumption) ?_
    rotate_left
    · (intro w hSw; (try dsimp only at hSw); first | (go_simp; done) | (go_simp; with_reducible rfl))
    try simp only [List.getElem_toArray, List.getElem_cons_succ, List.getElem_cons_zero, Act.put, List.setIfInBounds_toArray, List.set_cons_zero, List.set_cons_succ]
    refine wpAnyH_ready (rs := [24]) (by kernel_rfl) (by simp) ?_
    refine AllReadyH.cons rfl (fun K hK => ?_) AllReadyH.nil
    go_simp
    refine (iNetOk_any m' _ n' _ G' _ (by exact (unhide HF)) (unhide HWF) (by omega)).mono ?_
    rintro e w124 ⟨rfl, b124⟩
    clear kp0 kp1 ko0 ko1
    have HE := hide (NBox.later (by exact (unhide HE)) b124)
    have HO := hide (NBox.later (by exact (unhide HO)) b124)
    have HD := hide (GtsAt.later (by exact (unhide HD)) b124)
    have HF := hide (GtsAt.later (by exact (unhide HF)) b124)
    have BL := (by first | exact BL.trans (b124.mono BL.size) | exact BL.drew.trans (b124.mono BL.size))
    clear b124
    have kp0 := (unhide HE).1
    have kp1 := (unhide HE).2
    have ko0 := (unhide HO).1
    have ko1 := (unhide HO).2
    go_wp2_with fail
    refine hK.out _ _ ?_ (fun hHeld => ?_)
    · exact ⟨kp0, kp1, ko0, ko1⟩
    clear hK K
    try simp only [List.getElem_toArray, List.getElem_cons_succ, List.getElem_cons_zero, Act.put, List.setIfInBounds_toArray, List.set_cons_zero, List.set_cons_succ]
    refine wpAnyH_ready (rs := [26]) (by kernel_rfl) (by simp) ?_
    refine AllReadyH.cons rfl (fun K hK => ?_) AllReadyH.nil
    go_simp
    refine (sNetOk_any m' _ n' _ G' _ (by exact (unhide HF)) (unhide HWF) (by omega)).mono ?_
    rintro e w126 ⟨rfl, b126⟩
    clear kp0 kp1 ko0 ko1
    have HE := hide (NBox.later (by exact (unhide HE)) b126)
    have HO := hide (NBox.later (by exact (unhide HO)) b126)
    have HD := hide (GtsAt.later (by exact (unhide HD)) b126)
    have HF := hide (GtsAt.later (by exact (unhide HF)) b126)
    have BL := (by first | exact BL.trans (b126.mono BL.size) | exact BL.drew.trans (b126.mono BL.size))
    clear b126
    have kp0 := (unhide HE).1
    have kp1 := (unhide HE).2
    have ko0 := (unhide HO).1
    have ko1 := (unhide HO).2
    go_wp2_with fail
    refine hK.out _ _ ?_ (fun hHeld => ?_)
    · exact ⟨kp0, kp1, ko0, ko1⟩
    clear hK K
    try simp only [List.getElem_toArray, List.getElem_cons_succ, List.getElem_cons_zero, Act.put, List.setIfInBounds_toArray, List.set_cons_zero, List.set_cons_succ]
    refine wpAnyH_take (i := 27) (v := ?_) rfl (by kernel_rfl) (by kernel_rfl) (by kernel_rfl) (fun _ _ _ h => h) (Or.inl ⟨by rfl, ?_⟩) (by assumption) ?_
    rotate_left
    · (intro w hSw; (try dsimp only at hSw); first | (go_simp; done) | (go_simp; with_reducible rfl))
    try simp only [List.getElem_toArray, List.getElem_cons_succ, List.getElem_cons_zero, Act.put, List.setIfInBounds_toArray, List.set_cons_zero, List.set_cons_succ]
    refine wpAnyH_take (i := 28) (v := ?_) rfl (by kernel_rfl) (by kernel_rfl) (by kernel_rfl) (fun _ _ _ h => h) (Or.inl ⟨by rfl, ?_⟩) (by assumption) ?_
    rotate_left
    · (intro w hSw; (try dsimp only at hSw); first | (go_simp; done) | (go_simp; with_reducible rfl))
    try simp only [List.getElem_toArray, List.getElem_cons_succ, List.getElem_cons_zero, Act.put, List.setIfInBounds_toArray, List.set_cons_zero, List.set_cons_succ]
    refine wpAnyH_done (by kernel_rfl) ?_ _
    clear kp0 kp1 ko0 ko1
    have kp0 := (unhide HE).1
    have kp1 := (unhide HE).2
    go_wp2_with fail
    refine (sNetOk_any m _ n _ G _ (unhide HD) (unhide HWG) (by omega)).mono ?_
    rintro e w8 ⟨rfl, b8⟩
    clear kp0 kp1
    have HE := hide ((unhide HE).later b8)
    have HD := hide ((unhide HD).later b8)
    have BL := BL.trans (b8.mono BL.size)
    clear b8 HO HF HWF
    have kp0 := (unhide HE).1
    have kp1 := (unhide HE).2
    cases hP : netB m n G
    · go_wp2_with fail
      refine (iNetOk_any m _ n _ G _ (unhide HD) (unhide HWG) (by omega)).mono ?_
      rintro e w9 ⟨rfl, b9⟩
      rw [hP]
      go_wp2
      go_ret
      exact ⟨rfl, BL.trans (b9.mono BL.size)⟩
    · clear hP
      have hE := World.block_lt_of_cell? _ _ kp0
      simp only at hE
      obtain ⟨ga1, ca1, wa2, ga2, ca2, wa3, ra1, ra2, na3, fa3, ba3, na4, da4, ba4⟩ := gat_grow w8 m ad n cap G ⟨false, 2, 2 + m + n⟩ (unhide HD) (unhide HNN) (unhide hspot) (by omega)
      dsimp only at ra2
      have za : (wa3.setCell ⟨w8.heap.size, 1, none⟩ (.slice (some ⟨ga2, 0, none⟩) (n + 1) ca2)).heap.size = wa3.heap.size := by simp
      have HDa := hide ((unhide HD).later ba4)
      obtain ⟨gb1, cb1, wb2, gb2, cb2, wb3, rb1, rb2, nb3, fb3, bb3, nb4, db4, bb4⟩ := gat_grow (wa3.setCell ⟨w8.heap.size, 1, none⟩ (.slice (some ⟨ga2, 0, none⟩) (n + 1) ca2)) m ad n cap G ⟨false, 2, -2⟩ (unhide HDa) (unhide HNN) (unhide hspot) (by omega)
      dsimp only at rb2
      rw [za] at rb1 nb3 fb3 bb3 nb4 db4 bb4
      have zb : (wb3.setCell ⟨wa3.heap.size, 1, none⟩ (.slice (some ⟨gb2, 0, none⟩) (n + 1) cb2)).heap.size = wb3.heap.size := by simp
      have bb4' : Below (wa3.setCell ⟨w8.heap.size, 1, none⟩ (.slice (some ⟨ga2, 0, none⟩) (n + 1) ca2)).heap.size (wa3.setCell ⟨w8.heap.size, 1, none⟩ (.slice (some ⟨ga2, 0, none⟩) (n + 1) ca2)) (wb3.setCell ⟨wa3.heap.size, 1, none⟩ (.slice (some ⟨gb2, 0, none⟩) (n + 1) cb2)) := by rw [za]; exact bb4
      have HDb := hide ((unhide HDa).later bb4')
      obtain ⟨gc1, cc1, wc2, gc2, cc2, wc3, rc1, rc2, nc3, fc3, bc3, nc4, dc4, bc4⟩ := gat_grow (wb3.setCell ⟨wa3.heap.size, 1, none⟩ (.slice (some ⟨gb2, 0, none⟩) (n + 1) cb2)) m ad n cap G ⟨false, 1, 2⟩ (unhide HDb) (unhide HNN) (unhide hspot) (by omega)
      dsimp only at rc2
      rw [zb] at rc1 nc3 fc3 bc3 nc4 dc4 bc4
      have bc4' : Below (wb3.setCell ⟨wa3.heap.size, 1, none⟩ (.slice (some ⟨gb2, 0, none⟩) (n + 1) cb2)).heap.size (wb3.setCell ⟨wa3.heap.size, 1, none⟩ (.slice (some ⟨gb2, 0, none⟩) (n + 1) cb2)) (wc3.setCell ⟨wb3.heap.size, 1, none⟩ (.slice (some ⟨gc2, 0, none⟩) (n + 1) cc2)) := by rw [zb]; exact bc4
      have zc : (wc3.setCell ⟨wb3.heap.size, 1, none⟩ (.slice (some ⟨gc2, 0, none⟩) (n + 1) cc2)).heap.size = wc3.heap.size := by simp
      have s1 := ba3.size
      have s2 := bb3.size
      have s3 := bc3.size
      rw [za] at s2
      rw [zb] at s3
      have ln8 : w8.heap.size < wa3.heap.size := World.block_lt_of_cell? _ _ na3.1
      have lnA : wa3.heap.size < wb3.heap.size := World.block_lt_of_cell? _ _ nb3.1
      have lnB : wb3.heap.size < wc3.heap.size := World.block_lt_of_cell? _ _ nc3.1
      have ea0 := (ba3.cell (p := ⟨E, 0, none⟩) hE).trans kp0
      have ea1 := (ba3.cell (p := ⟨E, 1, none⟩) hE).trans kp1
      have fa0 := (ba4.cell (p := ⟨E, 0, none⟩) hE).trans kp0
      have fa1 := (ba4.cell (p := ⟨E, 1, none⟩) hE).trans kp1
      have eb0 := (bb3.cell (p := ⟨E, 0, none⟩) (by simp only; omega)).trans fa0
      have eb1 := (bb3.cell (p := ⟨E, 1, none⟩) (by simp only; omega)).trans fa1
      have fb0 := (bb4.cell (p := ⟨E, 0, none⟩) (by simp only; omega)).trans fa0
      have fb1 := (bb4.cell (p := ⟨E, 1, none⟩) (by simp only; omega)).trans fa1
      have ec0 := (bc3.cell (p := ⟨E, 0, none⟩) (by simp only; omega)).trans fb0
      have ec1 := (bc3.cell (p := ⟨E, 1, none⟩) (by simp only; omega)).trans fb1
      have hfb0 := hide fb0
      have hfb1 := hide fb1
      clear fa0 fa1 fb0 fb1
      have hEa : E < wa3.heap.size := by omega
      have hEb : E < wb3.heap.size := by omega
      have hEc : E < wc3.heap.size := by omega
      have x1 : E ≠ w8.heap.size := by omega
      have x2 : E ≠ wa3.heap.size := by omega
      have x3 : E ≠ wb3.heap.size := by omega
      obtain ⟨na30, na31⟩ := na3
      obtain ⟨nb30, nb31⟩ := nb3
      obtain ⟨nc30, nc31⟩ := nc3
      have fa30 := fa3 1
      have fb30 := fb3 1
      have fc30 := fc3 1
      have RA1 := hide ra1
      have RA2 := hide ra2
      have RB1 := hide rb1
      have RB2 := hide rb2
      have RC1 := hide rc1
      have RC2 := hide rc2
      have HNA := hide na4
      have HNB := hide nb4
      have HNC := hide nc4
      have HDA := hide da4
      have HDB := hide db4
      have HDC := hide dc4
      clear ra1 ra2 rb1 rb2 rc1 rc2 na4 nb4 nc4 da4 db4 dc4 fa3 fb3 fc3 za zb
      have HZC := hide zc
      clear zc
      have HBC := hide bc4
      have HBC' := hide bc4'
      have HBB' := hide bb4'
      clear bc4 bc4' bb4'
      go_wp2_with (first | (at_builtin; first | (refine wpList_append_run _ rfl (.tmp 61) (.tmp 63) 23 rfl _ _ _ _ rfl rfl (unhide RA1) ?_) | (refine wpList_append_run _ rfl (.tmp 64) (.tmp 67) 23 rfl _ _ _ _ rfl rfl (unhide RA2) ?_) | (refine wpList_append_run _ rfl (.tmp 71) (.tmp 73) 23 rfl _ _ _ _ rfl rfl (unhide RB1) ?_) | (refine wpList_append_run _ rfl (.tmp 74) (.tmp 76) 23 rfl _ _ _ _ rfl rfl (unhide RB2) ?_) | (refine wpList_append_run _ rfl (.tmp 80) (.tmp 82) 23 rfl _ _ _ _ rfl rfl (unhide RC1) ?_) | (refine wpList_append_run _ rfl (.tmp 83) (.tmp 85) 23 rfl _ _ _ _ rfl rfl (unhide RC2) ?_)))
      obtain ⟨wc4, hwc4⟩ : ∃ x, x = (wc3.setCell ⟨wb3.heap.size, 1, none⟩ (.slice (some ⟨gc2, 0, none⟩) (n + 1) cc2)) := ⟨_, rfl⟩
      rw [← hwc4] at HZC HBC HBC' HNC HDC
      have HNA := hide (((unhide HNA).later (unhide HBB')).later (unhide HBC'))
      have HNB := hide ((unhide HNB).later (unhide HBC'))
      have HDA := hide (((unhide HDA).later (unhide HBB')).later (unhide HBC'))
      have HDB2 := hide ((unhide HDB).later (unhide HBC'))
      have HDE := hide ((unhide HDb).later (unhide HBC'))
      have HE0 := hide (((unhide HBC).cell (p := ⟨E, 0, none⟩) (by simp only; omega)).trans (unhide hfb0))
      have HE1 := hide (((unhide HBC).cell (p := ⟨E, 1, none⟩) (by simp only; omega)).trans (unhide hfb1))
      have BL4 : Below w.heap.size w wc4 := ((BL.trans (ba4.mono BL.size)).trans (Below.mono (unhide HBB') (by have := BL.size; simp only [World.size_setCell] <;> omega))).trans (Below.mono (unhide HBC') (by have := BL.size; simp only [World.size_setCell] <;> omega))
      clear HBB' HBC' HBC HDB HDa HDb hfb0 hfb1 HD HE RA1 RA2 RB1 RB2 RC1 RC2 na30 na31 nb30 nb31 nc30 nc31 fa30 fb30 fc30 ea0 ea1 eb0 eb1 ec0 ec1 kp0 kp1 ba3 bb3 bc3 ba4 bb4
      rw [← hwc4]
      clear hwc4
      obtain ⟨wv, hwv⟩ : ∃ x, x = wc4.alloc (.cells #[.int .i64 m, .slice ad n cap] 25) := ⟨_, rfl⟩
      have bv : Below wc4.heap.size wc4 wv := by rw [hwv]; exact (Below.refl _ _).alloc (Nat.le_refl _) _
      have kd : NBox wv wc3.heap.size m ad n cap := by rw [hwv, ← unhide HZC]; exact NBox.new _ _ _ _ _ _
      have kdf : ∀ o, wv.frozen? ⟨wc3.heap.size, o, none⟩ = false := fun o => by rw [hwv, ← unhide HZC]; simp [go_sem]
      have lv : wc3.heap.size < wv.heap.size := World.block_lt_of_cell? _ _ kd.1
      rw [← hwv]
      clear hwv
      have ke1 := cell_later bv (unhide HE1)
      have xE : E ≠ wc3.heap.size := by omega
      refine wp_region_held_drew (S := fun w' => w'.cell? ⟨E, 1, none⟩ = some (.slice ad n cap)) (by kernel_rfl) ?_ (fun hHeld => ?_)
      · exact ke1
      obtain ⟨wd, hwd⟩ : ∃ x, x = wv.drew := ⟨_, rfl⟩
      have bvd : Below wc4.heap.size wc4 wd := by rw [hwd]; exact bv.drew
      have kd' : NBox wd wc3.heap.size m ad n cap := by rw [hwd]; exact kd
      have kdf' : ∀ o, wd.frozen? ⟨wc3.heap.size, o, none⟩ = false := by rw [hwd]; exact kdf
      have ld : wc3.heap.size < wd.heap.size := by rw [hwd]; exact lv
      replace ke1 : wd.cell? ⟨E, 1, none⟩ = some (.slice ad n cap) := by rw [hwd]; exact ke1
      rw [← hwd]
      (try rw [← hwd] at hHeld)
      clear hwd kd kdf lv bv
      obtain ⟨gd1, cd1, wd2, gd2, cd2, wd3, rd1, rd2, bd2, gtd, gdb, bd3⟩ := gat_dbl wd ad n cap G ((unhide HDE).later bvd) (unhide HNN) (unhide hspot) (by omega)
      have HKD : Hid (NBox wd3 wc3.heap.size m ad n cap ∧ ∀ o, wd3.frozen? ⟨wc3.heap.size, o, none⟩ = false) := ⟨kd'.later bd3, fun o => (bd3.frozen (p := ⟨wc3.heap.size, o, none⟩) ld).trans (kdf' o)⟩
      have RD1 := hide rd1
      have RD2 := hide rd2
      clear rd1 rd2
      refine wpAnyH_take (i := 1) (v := ?_) rfl (by kernel_rfl) (by kernel_rfl) (by kernel_rfl) (fun _ _ _ h => h) (Or.inl ⟨by rfl, ?_⟩) (by assumption) ?_
      rotate_left
      · (intro w hSw; (try dsimp only at hSw); first | (go_simp; done) | (go_simp; with_reducible rfl))
      try simp only [List.getElem_toArray, List.getElem_cons_succ, List.getElem_cons_zero, Act.put, List.setIfInBounds_toArray, List.set_cons_zero, List.set_cons_succ]
      refine wpAnyH_take (i := 2) (v := ?_) rfl (by kernel_rfl) (by kernel_rfl) (by kernel_rfl) (fun _ _ _ h => h) (Or.inl ⟨by rfl, ?_⟩) (by assumption) ?_
      rotate_left
      · (intro w hSw; (try dsimp only at hSw); first | (go_simp; done) | (go_simp; with_reducible rfl))
      try simp only [List.getElem_toArray, List.getElem_cons_succ, List.getElem_cons_zero, Act.put, List.setIfInBounds_toArray, List.set_cons_zero, List.set_cons_succ]
      refine wpAnyH_take (i := 4) (v := ?_) rfl (by kernel_rfl) (by kernel_rfl) (by kernel_rfl) (fun _ _ _ h => h) (Or.inl ⟨by rfl, ?_⟩) (by assumption) ?_
      rotate_left
      · (intro w hSw; (try dsimp only at hSw); first | (go_simp; done) | (go_simp; with_reducible rfl))
      try simp only [List.getElem_toArray, List.getElem_cons_succ, List.getElem_cons_zero, Act.put, List.setIfInBounds_toArray, List.set_cons_zero, List.set_cons_succ]
      refine wpAnyH_take (i := 5) (v := ?_) rfl (by kernel_rfl) (by kernel_rfl) (by kernel_rfl) (fun _ _ _ h => h) (Or.inl ⟨by rfl, ?_⟩) (by assumption) ?_
      rotate_left
      · (intro w hSw; (try dsimp only at hSw); first | (go_simp; done) | (go_simp; with_reducible rfl))
      try simp only [List.getElem_toArray, List.getElem_cons_succ, List.getElem_cons_zero, Act.put, List.setIfInBounds_toArray, List.set_cons_zero, List.set_cons_succ]
      refine wpAnyH_ready (rs := [0]) (by kernel_rfl) (by simp) ?_
      refine AllReadyH.cons rfl (fun K hK => ?_) AllReadyH.nil
      go_simp
      refine hK.out _ _ ?_ (fun hHeld => ?_)
      · exact cell_later ((Below.refl _ _).alloc (Nat.le_refl _) _) ke1
      clear hK K
      try simp only [List.getElem_toArray, List.getElem_cons_succ, List.getElem_cons_zero, Act.put, List.setIfInBounds_toArray, List.set_cons_zero, List.set_cons_succ]
      refine wpAnyH_ready (rs := [3]) (by kernel_rfl) (by simp) ?_
      refine AllReadyH.cons rfl (fun K hK => ?_) AllReadyH.nil
      refine step_app_ex rfl (.tmp 89) (.tmp 91) 23 rfl _ _ rfl rfl _ _ (unhide RD1) ?_
      refine hK.out _ _ ?_ (fun hHeld => ?_)
      · exact cell_later bd2 ke1
      clear hK K
      try simp only [List.getElem_toArray, List.getElem_cons_succ, List.getElem_cons_zero, Act.put, List.setIfInBounds_toArray, List.set_cons_zero, List.set_cons_succ]
      refine wpAnyH_ready (rs := [6]) (by kernel_rfl) (by simp) ?_
      refine AllReadyH.cons rfl (fun K hK => ?_) AllReadyH.nil
      refine step_app_ex rfl (.tmp 92) (.tmp 94) 23 rfl _ _ rfl rfl _ _ (unhide RD2) ?_
      refine hK.out _ _ ?_ (fun hHeld => ?_)
      · exact cell_later bd3 ke1
      clear hK K
      try simp only [List.getElem_toArray, List.getElem_cons_succ, List.getElem_cons_zero, Act.put, List.setIfInBounds_toArray, List.set_cons_zero, List.set_cons_succ]
      refine wpAnyH_take (i := 7) (v := ?_) rfl (by kernel_rfl) (by kernel_rfl) (by kernel_rfl) (fun _ _ _ h => h) (Or.inl ⟨by rfl, ?_⟩) (by assumption) ?_
      rotate_left
      · (intro w hSw; (try dsimp only at hSw); first | (go_simp; done) | (go_simp; with_reducible rfl))
      try simp only [List.getElem_toArray, List.getElem_cons_succ, List.getElem_cons_zero, Act.put, List.setIfInBounds_toArray, List.set_cons_zero, List.set_cons_succ]
      refine wpAnyH_ready (rs := [8]) (by kernel_rfl) (by simp) ?_
      refine AllReadyH.cons rfl (fun K hK => ?_) AllReadyH.nil
      have kd1 := (unhide HKD).1.2
      have kd0 := (unhide HKD).1.1
      have kdf1 := (unhide HKD).2 1
      go_simp
      refine hK.out _ _ ?_ (fun hHeld => ?_)
      · exact (World.cell?_setCell_other _ _ _ _ (by simp <;> omega)).trans (cell_later bd3 ke1)
      clear hK K
      try simp only [List.getElem_toArray, List.getElem_cons_succ, List.getElem_cons_zero, Act.put, List.setIfInBounds_toArray, List.set_cons_zero, List.set_cons_succ]
      refine wpAnyH_done (by kernel_rfl) ?_ _
      have hv9 : Mov wc3.heap.size wd3 (wd3.setCell ⟨wc3.heap.size, 1, none⟩ (.slice (some ⟨gd2, 0, none⟩) (n + n) cd2)) := Mov.set _ _ _
      obtain ⟨w9, hw9⟩ : ∃ x, x = wd3.setCell ⟨wc3.heap.size, 1, none⟩ (.slice (some ⟨gd2, 0, none⟩) (n + n) cd2) := ⟨_, rfl⟩
      have nD : NBox w9 wc3.heap.size m (some ⟨gd2, 0, none⟩) (n + n) cd2 := by rw [hw9]; exact ⟨by rw [World.cell?_setCell_other _ _ _ _ (by simp)]; exact kd0, World.cell?_setCell_same _ _ _ kd1⟩
      have GD : GtsAt w9 (some ⟨gd2, 0, none⟩) (n + n) (dblG G n) := by rw [hw9]; exact gtd.apart (Or.inr (fun b off e => by cases e; omega)) hv9
      have b9 : Below wc4.heap.size wc4 w9 := by rw [hw9]; exact (bvd.trans (bd3.mono bvd.size)).trans (hv9.below (by rw [unhide HZC]; exact Nat.le_refl _) (Nat.le_trans bvd.size bd3.size))
      have nE : NBox w9 E m ad n cap := ⟨cell_later b9 (unhide HE0), cell_later b9 (unhide HE1)⟩
      have nA := (unhide HNA).later b9
      have nB := (unhide HNB).later b9
      have nC := (unhide HNC).later b9
      have GA := (unhide HDA).later b9
      have GB := (unhide HDB2).later b9
      have GC := (unhide HDC).later b9
      have GE := (unhide HDE).later b9
      have BL := BL4.trans (b9.mono BL4.size)
      have HWA : Hid (WG (n + 1) (snocG G n ⟨false, 2, 2 + m + n⟩)) := snoc_wg (unhide HWG) ⟨by unfold W64; simp only; omega, by unfold W64; simp only; omega⟩
      have HWB : Hid (WG (n + 1) (snocG G n ⟨false, 2, -2⟩)) := snoc_wg (unhide HWG) ⟨by unfold W64; simp only; omega, by unfold W64; simp only; omega⟩
      have HWC : Hid (WG (n + 1) (snocG G n ⟨false, 1, 2⟩)) := snoc_wg (unhide HWG) ⟨by unfold W64; simp only; omega, by unfold W64; simp only; omega⟩
      have HWD : Hid (WG (n + n) (dblG G n)) := fun i hi => by unfold dblG; split; exact unhide HWG i (by assumption); exact unhide HWG (i - n) (by omega)
      have HBA : Hid (netB m (n + 1) (snocG G n ⟨false, 2, 2 + m + n⟩) = false) := bad_gate (fun h => by have h3 : absI (2 + m + (n : Int)) < 2 + m + n := h.2.2.1; unfold absI at h3; split at h3 <;> omega)
      have HBB : Hid (netB m (n + 1) (snocG G n ⟨false, 2, -2⟩) = false) := bad_gate (fun h => absurd (show absI 2 < absI (-2) from h.2.1) (by decide))
      have HBC9 : Hid (netB m (n + 1) (snocG G n ⟨false, 1, 2⟩) = false) := bad_gate (fun h => absurd (show 2 ≤ absI 1 from h.1) (by decide))
      rw [← hw9]
      clear hw9 hv9 b9 kd0 kd1 kdf1 HE0 HE1 HNA HNB HNC HDA HDB2 HDC HDE bvd bd2 bd3 gtd ke1 HKD RD1 RD2 kd' kdf' BL4
      obtain ⟨nA0, nA1⟩ := id nA
      have nAl := World.block_lt_of_cell? _ _ nA0
      obtain ⟨nB0, nB1⟩ := id nB
      have nBl := World.block_lt_of_cell? _ _ nB0
      obtain ⟨nC0, nC1⟩ := id nC
      have nCl := World.block_lt_of_cell? _ _ nC0
      obtain ⟨nD0, nD1⟩ := id nD
      have nDl := World.block_lt_of_cell? _ _ nD0
      obtain ⟨nE0, nE1⟩ := id nE
      have nEl := World.block_lt_of_cell? _ _ nE0
      go_wp2_with fail
      clear nA0 nA1 nAl
      clear nB0 nB1 nBl
      clear nC0 nC1 nCl
      clear nD0 nD1 nDl
      clear nE0 nE1 nEl
      refine (iNetOk_any m _ (n + 1) _ _ _ GA (unhide HWA) (by omega)).mono ?_
      rintro e w301 ⟨rfl, b301⟩
      replace GA := GA.later b301
      replace GB := GB.later b301
      replace GC := GC.later b301
      replace GD := GD.later b301
      replace GE := GE.later b301
      replace nA := nA.later b301
      replace nB := nB.later b301
      replace nC := nC.later b301
      replace nD := nD.later b301
      replace nE := nE.later b301
      replace BL := BL.trans (b301.mono BL.size)
      clear b301
      rw [unhide HBA]
      obtain ⟨nA0, nA1⟩ := id nA
      have nAl := World.block_lt_of_cell? _ _ nA0
      obtain ⟨nB0, nB1⟩ := id nB
      have nBl := World.block_lt_of_cell? _ _ nB0
      obtain ⟨nC0, nC1⟩ := id nC
      have nCl := World.block_lt_of_cell? _ _ nC0
      obtain ⟨nD0, nD1⟩ := id nD
      have nDl := World.block_lt_of_cell? _ _ nD0
      obtain ⟨nE0, nE1⟩ := id nE
      have nEl := World.block_lt_of_cell? _ _ nE0
      go_wp2_with fail
      clear nA0 nA1 nAl
      clear nB0 nB1 nBl
      clear nC0 nC1 nCl
      clear nD0 nD1 nDl
      clear nE0 nE1 nEl
      refine (iNetOk_any m _ (n + 1) _ _ _ GB (unhide HWB) (by omega)).mono ?_
      rintro e w302 ⟨rfl, b302⟩
      replace GA := GA.later b302
      replace GB := GB.later b302
      replace GC := GC.later b302
      replace GD := GD.later b302
      replace GE := GE.later b302
      replace nA := nA.later b302
      replace nB := nB.later b302
      replace nC := nC.later b302
      replace nD := nD.later b302
      replace nE := nE.later b302
      replace BL := BL.trans (b302.mono BL.size)
      clear b302
      rw [unhide HBB]
      obtain ⟨nA0, nA1⟩ := id nA
      have nAl := World.block_lt_of_cell? _ _ nA0
      obtain ⟨nB0, nB1⟩ := id nB
      have nBl := World.block_lt_of_cell? _ _ nB0
      obtain ⟨nC0, nC1⟩ := id nC
      have nCl := World.block_lt_of_cell? _ _ nC0
      obtain ⟨nD0, nD1⟩ := id nD
      have nDl := World.block_lt_of_cell? _ _ nD0
      obtain ⟨nE0, nE1⟩ := id nE
      have nEl := World.block_lt_of_cell? _ _ nE0
      go_wp2_with fail
      clear nA0 nA1 nAl
      clear nB0 nB1 nBl
      clear nC0 nC1 nCl
      clear nD0 nD1 nDl
      clear nE0 nE1 nEl
      refine (iNetOk_any m _ (n + 1) _ _ _ GC (unhide HWC) (by omega)).mono ?_
      rintro e w303 ⟨rfl, b303⟩
      replace GA := GA.later b303
      replace GB := GB.later b303
      replace GC := GC.later b303
      replace GD := GD.later b303
      replace GE := GE.later b303
      replace nA := nA.later b303
      replace nB := nB.later b303
      replace nC := nC.later b303
      replace nD := nD.later b303
      replace nE := nE.later b303
      replace BL := BL.trans (b303.mono BL.size)
      clear b303
      rw [unhide HBC9]
      by_cases hn0 : n = 0
      · have kn : ((n : Int) == 0) = true := by simp [hn0]
        clear hn0
        obtain ⟨nA0, nA1⟩ := id nA
        have nAl := World.block_lt_of_cell? _ _ nA0
        obtain ⟨nB0, nB1⟩ := id nB
        have nBl := World.block_lt_of_cell? _ _ nB0
        obtain ⟨nC0, nC1⟩ := id nC
        have nCl := World.block_lt_of_cell? _ _ nC0
        obtain ⟨nD0, nD1⟩ := id nD
        have nDl := World.block_lt_of_cell? _ _ nD0
        obtain ⟨nE0, nE1⟩ := id nE
        have nEl := World.block_lt_of_cell? _ _ nE0
        go_wp2_with fail
        clear nA0 nA1 nAl
        clear nB0 nB1 nBl
        clear nC0 nC1 nCl
        clear nD0 nD1 nDl
        clear nE0 nE1 nEl
        refine (iNetSame_any m m _ _ n (n + 1) _ _ G _ _ GE GA (by omega) (by omega)).mono ?_
        rintro e w304 ⟨rfl, b304⟩
        replace GA := GA.later b304
        replace GB := GB.later b304
        replace GC := GC.later b304
        replace GD := GD.later b304
        replace GE := GE.later b304
        replace nA := nA.later b304
        replace nB := nB.later b304
        replace nC := nC.later b304
        replace nD := nD.later b304
        replace nE := nE.later b304
        replace BL := BL.trans (b304.mono BL.size)
        clear b304
        rw [nsB_more]
        go_wp2
        go_ret
        exact ⟨rfl, BL⟩
      · have kn : ((n : Int) == 0) = false := by simp [hn0]
        have HBD : Hid (netB m (n + n) (dblG G n) = false) := bad_dbl (by omega)
        clear hn0
        obtain ⟨nA0, nA1⟩ := id nA
        have nAl := World.block_lt_of_cell? _ _ nA0
        obtain ⟨nB0, nB1⟩ := id nB
        have nBl := World.block_lt_of_cell? _ _ nB0
        obtain ⟨nC0, nC1⟩ := id nC
        have nCl := World.block_lt_of_cell? _ _ nC0
        obtain ⟨nD0, nD1⟩ := id nD
        have nDl := World.block_lt_of_cell? _ _ nD0
        obtain ⟨nE0, nE1⟩ := id nE
        have nEl := World.block_lt_of_cell? _ _ nE0
        go_wp2_with fail
        clear nA0 nA1 nAl
        clear nB0 nB1 nBl
        clear nC0 nC1 nCl
        clear nD0 nD1 nDl
        clear nE0 nE1 nEl
        refine (iNetOk_any m _ (n + n) _ _ _ GD (unhide HWD) (by omega)).mono ?_
        rintro e w401 ⟨rfl, b401⟩
        replace GA := GA.later b401
        replace GB := GB.later b401
        replace GC := GC.later b401
        replace GD := GD.later b401
        replace GE := GE.later b401
        replace nA := nA.later b401
        replace nB := nB.later b401
        replace nC := nC.later b401
        replace nD := nD.later b401
        replace nE := nE.later b401
        replace BL := BL.trans (b401.mono BL.size)
        clear b401
        rw [unhide HBD]
        obtain ⟨nA0, nA1⟩ := id nA
        have nAl := World.block_lt_of_cell? _ _ nA0
        obtain ⟨nB0, nB1⟩ := id nB
        have nBl := World.block_lt_of_cell? _ _ nB0
        obtain ⟨nC0, nC1⟩ := id nC
        have nCl := World.block_lt_of_cell? _ _ nC0
        obtain ⟨nD0, nD1⟩ := id nD
        have nDl := World.block_lt_of_cell? _ _ nD0
        obtain ⟨nE0, nE1⟩ := id nE
        have nEl := World.block_lt_of_cell? _ _ nE0
        go_wp2_with fail
        clear nA0 nA1 nAl
        clear nB0 nB1 nBl
        clear nC0 nC1 nCl
        clear nD0 nD1 nDl
        clear nE0 nE1 nEl
        refine (iNetSame_any m m _ _ n (n + 1) _ _ G _ _ GE GA (by omega) (by omega)).mono ?_
        rintro e w402 ⟨rfl, b402⟩
        replace GA := GA.later b402
        replace GB := GB.later b402
        replace GC := GC.later b402
        replace GD := GD.later b402
        replace GE := GE.later b402
        replace nA := nA.later b402
        replace nB := nB.later b402
        replace nC := nC.later b402
        replace nD := nD.later b402
        replace nE := nE.later b402
        replace BL := BL.trans (b402.mono BL.size)
        clear b402
        rw [nsB_more]
        go_wp2
        go_ret
        exact ⟨rfl, BL⟩
  · go_enter Try.func7, Try.ntmps7
    go_wp2
    go_ret
    exact ⟨rfl, Below.refl _ _⟩

set_option maxRecDepth 100000 in
theorem lifted (os : Os) (started : os.Started) (H : Type) (enc : TypeId × Value → H) :
    ReturnsInHanded {} Try.checked os 7 .any (Rows.fnNetBentSpec.pre6 enc Try.prog Try.f7 Rows.fnNetBentRow.domain false) (Rows.fnNetBentSpec.post enc Try.prog Try.f7 false true false false) := by
  refine returnsInHanded_of_change (C := Try.checked) own started (by kernel_rfl) Try.func7
    (ChangeSpec.witness6 (enc := enc) (C := Try.checked) false ⟨#[], #[.slice none 0 0], []⟩ 8 (by kernel_rfl) (by kernel_rfl) (by kernel_rfl) (by kernel_rfl)) ?_
  intro W base args ds gs before hval0 hW hcnd _
  have hval : ∀ (j : Nat) t v, Try.f7.params[j]? = some t → args[j]? = some v → Value.okWide Try.prog W .any base t v := hval0
  have hW' := hW
  obtain ⟨p, q, hA0, hV, rfl, hfz, hnd⟩ := hW
  have hA : DataW.TrodAll enc Try.prog W 0 (fun _ => true) true Try.f7.params.toList args.toList ds p := hA0
  rw [Try.params7] at hA hval
  obtain ⟨v0, vs0, d0, ds0, p0, q0, hargs, rfl, rfl, h0, r0⟩ := trodAll_cons hA
  obtain ⟨rfl, rfl, rfl⟩ := trodAll_nil r0
  obtain rfl : args = #[v0] := by cases args; simp_all
  obtain ⟨rfl, rfl⟩ := trodVars_none hV
  obtain ⟨code, lencode, capcode, rfl⟩ := okWide_slice Try.underlying22 (hval 0 22 v0 rfl rfl)
  have k0 := h0
  have lt0 : ∀ x ∈ p0, x.block < W.heap.size := by obtain ⟨m, hm⟩ := k0; exact DataW.trod_lt m _ _ _ hm
  obtain ⟨zcode, wcode⟩ : ∃ zs, IsRow .u8 W code lencode capcode zs := by
    obtain ⟨fuel, hf⟩ := h0
    rcases open_ints Try.underlying22 Try.underlying5 (by kernel_rfl) hf with ⟨hcs, _⟩ | ⟨x, l, c, zs, hcs, _, hl, hm, hz, _, hcell, hwz⟩
    · simp [Value.cells] at hcs
      obtain ⟨rfl, rfl, rfl⟩ := hcs
      exact ⟨[], .inl ⟨rfl, rfl, rfl, rfl⟩⟩
    · simp [Value.cells] at hcs
      obtain ⟨rfl, rfl, rfl⟩ := hcs
      exact ⟨zs, .inr ⟨_, rfl, hl, hm, by simpa using hz, hcell, hwz⟩⟩
  clear hA0 hval0
  refine (walk code lencode capcode zcode W wcode).mono fun e W' ⟨he, bel⟩ => ?_
  subst he
  exact ⟨_, rfl, _, _, _, [], _, [], hW', trodAll_mk1 (shut_bool Try.underlying4 _), (trodAll_cons_mk (Below.trod laidOut (by kernel_rfl) (of_decide_eq_true (by kernel_rfl)) k0 bel lt0) trodAll_mk0), rfl, bel.frame _, fun h => by cases h⟩

theorem over : Rows.fnNetBentRow.holds Try.pinned (OpenSpec.ofChange Rows.fnNetBentSpec) :=
  OpenClaim.holds_of_wide 7 Try.f7 rfl rfl rfl rfl rfl rfl rfl ⟨rfl, rfl, rfl, rfl, rfl⟩ rfl rfl rfl rfl rfl (by kernel_rfl) Try.func7 (by kernel_rfl)
    (of_decide_eq_true (by kernel_rfl)) (by unfold Func.isWrapper; first | (rw [if_pos (by decide +kernel)]; kernel_rfl) | (rw [if_neg (by decide +kernel)]; exact ⟨rfl, rfl⟩))
    (fun os started H enc _ => lifted os started H enc)
end nBent

theorem nBent_holds : Rows.FnNetBentSaid := nBent.over
#print axioms nBent_holds
end Go.Proofs.Ytbfijmijhfbkdaa
