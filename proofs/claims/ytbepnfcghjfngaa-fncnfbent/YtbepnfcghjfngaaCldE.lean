/- What the model's draw of clauses twice over returns: the second bent three times. -/
import Derived.Test.YtbepnfcghjfngaaCldB
import Derived.Test.YtbepnfcghjfngaaCldC
namespace Go.Proofs.Ytbepnfcghjfngaa
open Go.ChangeShapes Go.WideShapes Go.ChangeAt Go.RowKit Go.Joins
set_option linter.unusedVariables false
set_option linter.unusedSimpArgs false

/-- Two lists of clauses that a law has drawn. -/
def LawS (w w' : World) (e : Ending) : Prop := ∃ (m : Nat) (v : Value) (Ls : List Clz) (m' : Int) (v' : Value) (Ls' : List Clz) (R : Nat), e = .returned (.tuple #[.agg #[.int .i64 (m : Int), v], .agg #[.int .i64 m', v']]) ∧ 1 ≤ m ∧ m ≤ 7 ∧ W64 m' ∧ Ls.length ≤ 30 ∧ Ls'.length ≤ 40 ∧ ClzAt w' R v Ls ∧ ClzAt w' R v' Ls' ∧ Below w.heap.size w w'
set_option maxHeartbeats 2000000 in
theorem drawCnfSame_any (a : Option Addr) (l c : Nat) (w : World) (hl : l ≤ 1048576) (hc : l ≤ c) (hcm : c ≤ maxLen) (hby : Byts w w.heap.size a l) :
    Calls Try.prog 4 #[.slice a l c] w fun e w' => LawS w w' e := by
  obtain ⟨w0, hw0⟩ : ∃ x, x = w.alloc (.cells #[.int .i64 0, .slice none 0 0] 25) := ⟨_, rfl⟩
  obtain ⟨w1, hw1⟩ : ∃ x, x = w0.alloc (.cells #[.int .i64 0, .slice none 0 0] 25) := ⟨_, rfl⟩
  have b0 : Below w.heap.size w w0 := by rw [hw0]; exact (Below.refl _ _).alloc (Nat.le_refl _) _
  have b01 : Below w0.heap.size w0 w1 := by rw [hw1]; exact (Below.refl _ _).alloc (Nat.le_refl _) _
  have s0 : w0.heap.size = w.heap.size + 1 := by rw [hw0]; simp
  have s1 : w1.heap.size = w.heap.size + 2 := by rw [hw1]; simp [s0]
  have ra1 : Made w1 w.heap.size 2 := Made.later (by rw [hw0]; exact made_two) b01
  have rb1 : Made w1 (w.heap.size + 1) 2 := by rw [hw1, ← s0]; exact made_two
  have b1 : Below w.heap.size w w1 := b0.trans (b01.mono b0.size)
  have hby1 := byts_later (R' := w1.heap.size) hby b1 (by omega)
  go_enter Try.func4, Try.ntmps4
  go_wp2_with fail
  rw [← hw0, ← hw1]
  clear hw0 hw1 hby b0 b01
  refine (open_any _ _ _ _ hl hc hcm hby1).mono ?_
  rintro e w2 ⟨rfl, R2, b2⟩
  obtain ⟨R, hRe⟩ : ∃ x, x = w1.heap.size := ⟨_, rfl⟩
  rw [← hRe] at R2
  rw [← hRe]
  have rl := R2.lt
  have ra2 := ra1.later b2
  have rb2 := rb1.later b2
  have BL2 : Below w.heap.size w w2 := b1.trans (b2.mono b1.size)
  have hlt : w.heap.size + 1 < R := by omega
  clear hRe b1 b2 ra1 rb1 hby1 s0 s1
  go_wp2_with fail
  refine (l4Cnf_any R _ _ R2 (by omega)).mono ?_
  rintro e w3 ⟨⟨m3, v3, L3, rfl, m31, m37, l3, c3⟩, R3, mv3⟩
  have BL3 := BL2.trans (mv3.below (by omega) BL2.size)
  have ra3 := ra2.mov mv3 (by omega)
  have rb3 := rb2.mov mv3 (by omega)
  clear R2 BL2 mv3 rl ra2 rb2
  obtain ⟨va, vc, rfl, _⟩ := c3.slice
  have l3R := R3.lt
  obtain ⟨w5, hw5⟩ : ∃ x, x = w3.alloc (.cells #[.int .i64 (m3 : Int), .slice va L3.length vc] 25) := ⟨_, rfl⟩
  have b5 : Below w3.heap.size w3 w5 := by rw [hw5]; exact (Below.refl _ _).alloc (Nat.le_refl _) _
  have p5 : Box w5 w3.heap.size (m3 : Int) va L3.length vc := by rw [hw5]; exact Box.new _ _ _ _ _ _
  obtain ⟨Bx, hBx⟩ : ∃ x, x = w3.heap.size := ⟨_, rfl⟩
  have hBR : R < Bx := by omega
  rw [← hBx] at p5
  have c5 := c3.later b5
  have R5 := R3.below b5
  have ra5 := ra3.later b5
  have rb5 := rb3.later b5
  have BL5 := BL3.trans (b5.mono BL3.size)
  have HV5 := hide hw5
  clear hw5 b5 c3 R3 ra3 rb3 BL3
  obtain ⟨kp0, kp1⟩ := id p5
  clear p5
  go_wp2_with fail
  rw [← unhide HV5]
  rw [← hBx]
  clear hBx l3R HV5
  go_wp2
  refine wp_region_held_drew (S := fun w' => w'.cell? ⟨Bx, 0, none⟩ = some (.int .i64 (m3 : Int)) ∧ w'.cell? ⟨Bx, 1, none⟩ = some (.slice va L3.length vc)) (by kernel_rfl) ?_ (fun hHeld => ?_)
  · exact ⟨kp0, kp1⟩
  obtain ⟨wd, hwd⟩ : ∃ x, x = w5.drew := ⟨_, rfl⟩
  have bd : Below w5.heap.size w5 wd := by rw [hwd]; exact (Below.refl _ _).drew
  have k4 := c5.later bd
  have R4 := R5.below bd
  have ra4 := ra5.later bd
  have rb4 := rb5.later bd
  have BL4 := BL5.trans (bd.mono BL5.size)
  replace kp0 := cell_later bd kp0
  replace kp1 := cell_later bd kp1
  rw [← hwd]
  (try rw [← hwd] at hHeld)
  clear hwd bd c5 R5 ra5 rb5 BL5
  refine wpAnyH_take (i := 0) (v := ?_) rfl (by kernel_rfl) (by kernel_rfl) (by kernel_rfl) (fun _ _ _ h => h) (Or.inl ⟨by rfl, ?_⟩) (by assumption) ?_
  rotate_left
  · (intro w hSw; (try dsimp only at hSw); first | (go_simp; done) | (go_simp; with_reducible rfl))
  try simp only [List.getElem_toArray, List.getElem_cons_succ, List.getElem_cons_zero, Act.put, List.setIfInBounds_toArray, List.set_cons_zero, List.set_cons_succ]
  refine wpAnyH_take (i := 1) (v := ?_) rfl (by kernel_rfl) (by kernel_rfl) (by kernel_rfl) (fun _ _ _ h => h) (Or.inl ⟨by rfl, ?_⟩) (by assumption) ?_
  rotate_left
  · (intro w hSw; (try dsimp only at hSw); first | (go_simp; done) | (go_simp; with_reducible rfl))
  try simp only [List.getElem_toArray, List.getElem_cons_succ, List.getElem_cons_zero, Act.put, List.setIfInBounds_toArray, List.set_cons_zero, List.set_cons_succ]
  refine wpAnyH_take (i := 2) (v := ?_) rfl (by kernel_rfl) (by kernel_rfl) (by kernel_rfl) (fun _ _ _ h => h) (Or.inl ⟨by rfl, ?_⟩) (by assumption) ?_
  rotate_left
  · (intro w hSw; (try dsimp only at hSw); first | (go_simp; done) | (go_simp; with_reducible rfl))
  try simp only [List.getElem_toArray, List.getElem_cons_succ, List.getElem_cons_zero, Act.put, List.setIfInBounds_toArray, List.set_cons_zero, List.set_cons_succ]
  refine wpAnyH_take (i := 3) (v := ?_) rfl (by kernel_rfl) (by kernel_rfl) (by kernel_rfl) (fun _ _ _ h => h) (Or.inl ⟨by rfl, ?_⟩) (by assumption) ?_
  rotate_left
  · (intro w hSw; (try dsimp only at hSw); first | (go_simp; done) | (go_simp; with_reducible rfl))
  try simp only [List.getElem_toArray, List.getElem_cons_succ, List.getElem_cons_zero, Act.put, List.setIfInBounds_toArray, List.set_cons_zero, List.set_cons_succ]
  refine wpAnyH_take (i := 4) (v := ?_) rfl (by kernel_rfl) (by kernel_rfl) (by kernel_rfl) (fun _ _ _ h => h) (Or.inl ⟨by rfl, ?_⟩) (by assumption) ?_
  rotate_left
  · (intro w hSw; (try dsimp only at hSw); first | (go_simp; done) | (go_simp; with_reducible rfl))
  try simp only [List.getElem_toArray, List.getElem_cons_succ, List.getElem_cons_zero, Act.put, List.setIfInBounds_toArray, List.set_cons_zero, List.set_cons_succ]
  refine wpAnyH_ready (rs := [5]) (by kernel_rfl) (by simp) ?_
  refine AllReadyH.cons rfl (fun K hK => ?_) AllReadyH.nil
  go_simp
  refine (l4Bent_any R _ 30 (m3 : Int) (.slice va L3.length vc) L3 _ R4 (by omega) (by unfold W64; omega) k4 l3 (by omega)).mono ?_
  rintro e w6 ⟨⟨m6, v6, L6, rfl, hm6, l6, c6⟩, R6, mv6⟩
  have BL6 := BL4.trans (mv6.below (by omega) BL4.size)
  have ra6 := ra4.mov mv6 (by omega)
  have rb6 := rb4.mov mv6 (by omega)
  have k6 := k4.mov mv6
  replace kp0 := mv6.cell kp0 (by simp only; omega)
  replace kp1 := mv6.cell kp1 (by simp only; omega)
  clear BL4 ra4 rb4 k4 R4 mv6
  go_wp2_with fail
  refine hK.out _ _ ?_ (fun hHeld => ?_)
  · exact ⟨kp0, kp1⟩
  clear hK K
  try simp only [List.getElem_toArray, List.getElem_cons_succ, List.getElem_cons_zero, Act.put, List.setIfInBounds_toArray, List.set_cons_zero, List.set_cons_succ]
  refine wpAnyH_ready (rs := [6]) (by kernel_rfl) (by simp) ?_
  refine AllReadyH.cons rfl (fun K hK => ?_) AllReadyH.nil
  go_simp
  refine (l4Bent_any R _ 31 m6 v6 L6 _ R6 (by omega) hm6 c6 l6 (by omega)).mono ?_
  rintro e w7 ⟨⟨m7, v7, L7, rfl, hm7, l7, c7⟩, R7, mv7⟩
  have BL7 := BL6.trans (mv7.below (by omega) BL6.size)
  have ra7 := ra6.mov mv7 (by omega)
  have rb7 := rb6.mov mv7 (by omega)
  have k7 := k6.mov mv7
  replace kp0 := mv7.cell kp0 (by simp only; omega)
  replace kp1 := mv7.cell kp1 (by simp only; omega)
  clear BL6 ra6 rb6 k6 R6 mv7 c6
  go_wp2_with fail
  refine hK.out _ _ ?_ (fun hHeld => ?_)
  · exact ⟨kp0, kp1⟩
  clear hK K
  try simp only [List.getElem_toArray, List.getElem_cons_succ, List.getElem_cons_zero, Act.put, List.setIfInBounds_toArray, List.set_cons_zero, List.set_cons_succ]
  refine wpAnyH_ready (rs := [7]) (by kernel_rfl) (by simp) ?_
  refine AllReadyH.cons rfl (fun K hK => ?_) AllReadyH.nil
  go_simp
  refine (l4Bent_any R _ 32 m7 v7 L7 _ R7 (by omega) hm7 c7 l7 (by omega)).mono ?_
  rintro e w8 ⟨⟨m8, v8, L8, rfl, hm8, l8, c8⟩, R8, mv8⟩
  have BL8 := BL7.trans (mv8.below (by omega) BL7.size)
  have ra8 := ra7.mov mv8 (by omega)
  have rb8 := rb7.mov mv8 (by omega)
  have k8 := k7.mov mv8
  replace kp0 := mv8.cell kp0 (by simp only; omega)
  replace kp1 := mv8.cell kp1 (by simp only; omega)
  clear BL7 ra7 rb7 k7 R7 mv8 c7
  go_wp2_with fail
  refine hK.out _ _ ?_ (fun hHeld => ?_)
  · exact ⟨kp0, kp1⟩
  clear hK K
  try simp only [List.getElem_toArray, List.getElem_cons_succ, List.getElem_cons_zero, Act.put, List.setIfInBounds_toArray, List.set_cons_zero, List.set_cons_succ]
  refine wpAnyH_ready (rs := [8]) (by kernel_rfl) (by simp) ?_
  refine AllReadyH.cons rfl (fun K hK => ?_) AllReadyH.nil
  obtain ⟨vb, vd, rfl, _⟩ := c8.slice
  have nq : ∀ q, q ∈ L3 → q.g ≠ w.heap.size ∧ q.g ≠ w.heap.size + 1 := fun q hq => by have := (k8.1 q hq).1; omega
  have nr : ∀ q, q ∈ L8 → q.g ≠ w.heap.size ∧ q.g ≠ w.heap.size + 1 := fun q hq => by have := (c8.1 q hq).1; omega
  have nv : ∀ k, (Value.slice va L3.length vc).ownBlock = some k → k ≠ w.heap.size ∧ k ≠ w.heap.size + 1 := by
    intro k hk
    rcases k8.2 with ⟨e, _⟩ | ⟨b, cap, e, _, h2, h3, _⟩
    · rw [e] at hk; simp [Value.ownBlock] at hk
    · rw [e] at hk; simp [Value.ownBlock] at hk; omega
  have nu : ∀ k, (Value.slice vb L8.length vd).ownBlock = some k → k ≠ w.heap.size ∧ k ≠ w.heap.size + 1 := by
    intro k hk
    rcases c8.2 with ⟨e, _⟩ | ⟨b, cap, e, _, h2, h3, _⟩
    · rw [e] at hk; simp [Value.ownBlock] at hk
    · rw [e] at hk; simp [Value.ownBlock] at hk; omega
  have NQ := hide nq
  have NR := hide nr
  have NV := hide nv
  have NU := hide nu
  have CA := hide k8
  have CB := hide c8
  clear nq nr nv nu k8 c8
  have f0 := (ra8.2 0 (by omega)).2
  have f1 := (ra8.2 1 (by omega)).2
  obtain ⟨q0, e0⟩ := (ra8.2 0 (by omega)).1
  obtain ⟨q1, e1⟩ := (ra8.2 1 (by omega)).1
  go_simp
  obtain ⟨w9, hw9⟩ : ∃ x, x = (w8.setCell ⟨w.heap.size, 0, none⟩ (.int .i64 (m3 : Int))).setCell ⟨w.heap.size, 1, none⟩ (.slice va L3.length vc) := ⟨_, rfl⟩
  have ms9 : Mov (w.heap.size) w8 w9 := by rw [hw9]; exact (Mov.set _ _ _).trans (Mov.set _ _ _)
  have da0 : w9.cell? ⟨w.heap.size, 0, none⟩ = some (.int .i64 (m3 : Int)) := by rw [hw9, World.cell?_setCell_other _ _ _ _ (by simp)]; exact World.cell?_setCell_same _ _ _ e0
  have da1 : w9.cell? ⟨w.heap.size, 1, none⟩ = some (.slice va L3.length vc) := by rw [hw9]; exact World.cell?_setCell_same _ _ _ (by rw [World.cell?_setCell_other _ _ _ _ (by simp)]; exact e1)
  replace CA := hide (show ClzAt w9 R _ _ from by rw [hw9]; exact ((unhide CA).set (fun q hq => (unhide NQ q hq).1) (fun e => (unhide NV _ e).1 rfl)).set (fun q hq => (unhide NQ q hq).1) (fun e => (unhide NV _ e).1 rfl))
  replace CB := hide (show ClzAt w9 R _ _ from by rw [hw9]; exact ((unhide CB).set (fun q hq => (unhide NR q hq).1) (fun e => (unhide NU _ e).1 rfl)).set (fun q hq => (unhide NR q hq).1) (fun e => (unhide NU _ e).1 rfl))
  have BL9 : Below w.heap.size w w9 := by rw [hw9]; exact (BL8.setCell (by simp) _).setCell (by simp) _
  replace kp0 := ms9.cell kp0 (by simp only; omega)
  replace kp1 := ms9.cell kp1 (by simp only; omega)
  have rb9 := rb8.mov ms9 (by omega)
  rw [← hw9]
  clear hw9 ms9 f0 f1 e0 e1 BL8 ra8 rb8
  refine hK.out _ _ ?_ (fun hHeld => ?_)
  · exact ⟨kp0, kp1⟩
  clear hK K
  try simp only [List.getElem_toArray, List.getElem_cons_succ, List.getElem_cons_zero, Act.put, List.setIfInBounds_toArray, List.set_cons_zero, List.set_cons_succ]
  refine wpAnyH_ready (rs := [9]) (by kernel_rfl) (by simp) ?_
  refine AllReadyH.cons rfl (fun K hK => ?_) AllReadyH.nil
  have f0 := (rb9.2 0 (by omega)).2
  have f1 := (rb9.2 1 (by omega)).2
  obtain ⟨q0, e0⟩ := (rb9.2 0 (by omega)).1
  obtain ⟨q1, e1⟩ := (rb9.2 1 (by omega)).1
  go_simp
  obtain ⟨w10, hw10⟩ : ∃ x, x = (w9.setCell ⟨w.heap.size + 1, 0, none⟩ (.int .i64 m8)).setCell ⟨w.heap.size + 1, 1, none⟩ (.slice vb L8.length vd) := ⟨_, rfl⟩
  have ms10 : Mov (w.heap.size + 1) w9 w10 := by rw [hw10]; exact (Mov.set _ _ _).trans (Mov.set _ _ _)
  have db0 : w10.cell? ⟨w.heap.size + 1, 0, none⟩ = some (.int .i64 m8) := by rw [hw10, World.cell?_setCell_other _ _ _ _ (by simp)]; exact World.cell?_setCell_same _ _ _ e0
  have db1 : w10.cell? ⟨w.heap.size + 1, 1, none⟩ = some (.slice vb L8.length vd) := by rw [hw10]; exact World.cell?_setCell_same _ _ _ (by rw [World.cell?_setCell_other _ _ _ _ (by simp)]; exact e1)
  replace CA := hide (show ClzAt w10 R _ _ from by rw [hw10]; exact ((unhide CA).set (fun q hq => (unhide NQ q hq).2) (fun e => (unhide NV _ e).2 rfl)).set (fun q hq => (unhide NQ q hq).2) (fun e => (unhide NV _ e).2 rfl))
  replace CB := hide (show ClzAt w10 R _ _ from by rw [hw10]; exact ((unhide CB).set (fun q hq => (unhide NR q hq).2) (fun e => (unhide NU _ e).2 rfl)).set (fun q hq => (unhide NR q hq).2) (fun e => (unhide NU _ e).2 rfl))
  have BL10 : Below w.heap.size w w10 := by rw [hw10]; exact (BL9.setCell (by simp) _).setCell (by simp) _
  replace kp0 := ms10.cell kp0 (by simp only; omega)
  replace kp1 := ms10.cell kp1 (by simp only; omega)
  replace da0 := ms10.cell da0 (by simp)
  replace da1 := ms10.cell da1 (by simp)
  rw [← hw10]
  clear hw10 ms10 f0 f1 e0 e1 BL9 rb9
  refine hK.out _ _ ?_ (fun hHeld => ?_)
  · exact ⟨kp0, kp1⟩
  clear hK K
  try simp only [List.getElem_toArray, List.getElem_cons_succ, List.getElem_cons_zero, Act.put, List.setIfInBounds_toArray, List.set_cons_zero, List.set_cons_succ]
  refine wpAnyH_done (by kernel_rfl) ?_ _
  go_wp2
  refine bodyPost_ret (v := .tuple #[.agg #[.int .i64 (m3 : Int), .slice va L3.length vc], .agg #[.int .i64 m8, .slice vb L8.length vd]]) (by simp [results, Try.results4, go_sem, da0, da1, db0, db1]) rfl ?_
  exact ⟨m3, _, L3, m8, _, L8, R, rfl, m31, m37, hm8, l3, by omega, unhide CA, unhide CB, BL10⟩
end Go.Proofs.Ytbepnfcghjfngaa
