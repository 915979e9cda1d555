/- What the model's draw of numbers for names returns: some numbers in a list of its own; the reader moves on, nothing else that was there turns. -/
import Derived.Test.YtaikhigeoebkjaaDrwD
import Derived.Test.YtaikhigeoebkjaaEnvA
import Derived.Test.YtaikhigeoebkjaaTrmB
import Derived.Test.YtaikhigeoebkjaaIapA
namespace Go.Proofs.Ytaikhigeoebkjaa
open Go.ChangeShapes Go.WideShapes Go.ChangeAt Go.RowKit Go.Joins
set_option linter.unusedVariables false
set_option linter.unusedSimpArgs false

theorem two_ok (v : Int) : 1 ≤ two (max 0 (min v 4)) ∧ two (max 0 (min v 4)) ≤ 16 ∧ 0 ≤ max 0 (min v 4) ∧ max 0 (min v 4) ≤ 20 := by
  have : max 0 (min v 4) = 0 ∨ max 0 (min v 4) = 1 ∨ max 0 (min v 4) = 2 ∨ max 0 (min v 4) = 3 ∨ max 0 (min v 4) = 4 := by omega
  rcases this with e | e | e | e | e <;> rw [e] <;> decide
/-- What a draw of numbers gives. -/
def DrewE (w w' : World) (m : Nat) (e : Ending) : Prop := ∃ (g n cap : Nat) (E : Nat → Int), e = .returned (.slice (some ⟨g, 0, none⟩) n cap) ∧ n ≤ cap ∧ n ≤ m + 1 ∧ w.heap.size ≤ g ∧ g < w'.heap.size ∧ Ints w' g 0 n E
/-- One number more. -/
theorem int_append (w : World) (base g k cap : Nat) (L : List Int) (x : Int) (T : Nat) (hown : w.ownsRow base 3 1 (.slice (some ⟨g, 0, none⟩) k cap) k (icells L)) (hc : w.cell? ⟨T, 0, none⟩ = some (.int .i64 x)) (hk : k ≤ 1000) (hbase : base ≤ w.heap.size) :
    ∃ g' cap' w', (Builtin.append_ #[24, 24] 24 #[.slice (some ⟨g, 0, none⟩) k cap, .slice (some ⟨T, 0, none⟩) 1 1]).run Try.prog w = .ok (.slice (some ⟨g', 0, none⟩) (k + 1) cap') w' ∧ w'.ownsRow base 3 1 (.slice (some ⟨g', 0, none⟩) (k + 1) cap') (k + 1) (icells (L ++ [x])) ∧ w.grownBy w' (some g) ∧ (g' = g ∨ g' = w.heap.size) := by
  obtain ⟨i0, hi0, hzz⟩ := Option.map_eq_some_iff.1 infoInt
  simp only [Prod.mk.injEq] at hzz
  obtain ⟨hz0, hz1, hz2⟩ := hzz
  rw [icells_snoc]
  exact append_where (P := Try.prog) w base 24 24 3 i0 _ 1 8 Try.underlying24 hi0 hz0 hz1 hz2 rfl (by omega) g k cap (icells L) hown ⟨T, 0, none⟩ 1 1 [.int .i64 x] rfl (by
    intro j u hj
    rw [Go.WideShapes.add_plain, Nat.zero_add]
    match j, hj with
    | 0, hj => simp at hj; rw [← hj]; exact hc
    | j + 1, hj => simp at hj) (by intro u hu; simp at hu; subst hu; rfl) (by unfold maxLen; omega) (by omega) hbase
set_option maxHeartbeats 4000000 in
theorem l2Env_any (R N b n cap : Nat) (S : Nat → ByteArray) (V : Nat → Int) (w : World) (hR : Rd w R N) (hN : N ≤ 900000) (hb : b ≠ R) (hbl : b < w.heap.size) (hd : Decs w b 0 n S V) (hn : n ≤ 100) :
    Calls Try.prog 12 #[.pointer (some ⟨R, 0, none⟩), .slice (some ⟨b, 0, none⟩) n cap] w fun e w' => DrewE w w' n e ∧ Rd w' R (N + n + 3) ∧ Mov R w w' := by
  have hlt := hR.lt
  have HD := hide hd
  clear hd
  go_enter Try.func12, Try.ntmps12
  go_wp2
  obtain ⟨w1, hw1⟩ : ∃ v, v = w.alloc (.cells #[] 3) := ⟨_, rfl⟩
  have b1 : Below w.heap.size w w1 := by rw [hw1]; exact (Below.refl _ _).alloc (Nat.le_refl _) _
  have o1 : w1.ownsRow w.heap.size 3 1 (.slice (some ⟨w.heap.size, 0, none⟩) 0 0) 0 (icells []) := by
    refine ⟨rfl, .inr ⟨w.heap.size, 0, #[], rfl, Nat.le_refl _, ?_, Nat.le_refl _, by unfold maxLen; omega, rfl, rfl⟩⟩
    rw [hw1]
    exact heap_alloc_new w _
  rw [← hw1]
  have R1 := hR.below b1
  have M1 : Mov R w w1 := Mov.of b1
  have HD1 := hide ((unhide HD).later b1)
  have hs1 : w.heap.size + 1 ≤ w1.heap.size := by rw [hw1]; simp
  obtain ⟨B0, hB0⟩ : ∃ x, x = w.heap.size := ⟨_, rfl⟩
  rw [← hB0] at o1 hs1 hbl hlt
  rw [← hB0]
  have kB0 : w.heap.size ≤ B0 := by omega
  have HB0 := hide hB0
  clear hw1 b1 hR HD hB0
  go_loopw [6, 5] (fun i v wr => ∃ (k : Nat) (L : List Int) (g c : Nat), k ≤ n ∧ L.length = k ∧ i = .int .i64 k ∧ v = .slice (some ⟨g, 0, none⟩) k c ∧ B0 ≤ g ∧ wr.ownsRow B0 3 1 v k (icells L) ∧ Decs wr b 0 n S V ∧ Rd wr R (N + k) ∧ Mov R w wr ∧ B0 + 1 ≤ wr.heap.size) (fun i _ _ => n - (intOf i).toNat)
  case atStart => exact ⟨0, [], B0, 0, by omega, rfl, rfl, rfl, Nat.le_refl _, o1, unhide HD1, R1, M1, hs1⟩
  case round =>
    clear o1 HD1 R1 M1 hs1
    obtain ⟨k, L, g, c, hk, hL, rfl, rfl, hg, hown, hd, hR, MV, hs⟩ := hrel
    have OW := hide hown
    have HD := hide hd
    have HL := hide hL
    have gl : g < wr.heap.size := (own_cap hown).2
    clear hown hd hL
    by_cases hlt2 : k < n
    · obtain ⟨c0, c1⟩ := unhide HD k hlt2
      rw [Nat.zero_add] at c0 c1
      obtain ⟨t1, t2, t3, t4⟩ := two_ok (V k)
      go_wp2_with fail
      refine (l1Min_any _ _ _).mono ?_
      rintro e wa ⟨rfl, rfl⟩
      go_wp2_with fail
      refine (l1Max_any _ _ _).mono ?_
      rintro e wa ⟨rfl, rfl⟩
      go_wp2_with fail
      refine (two_any _ _ t3 t4).mono ?_
      rintro e wa ⟨rfl, rfl⟩
      go_wp2_with fail
      refine (pick_any R _ _ _ hR (by omega) t1 (by omega)).mono ?_
      rintro e w2 ⟨x, rfl, x0, x1, hRn, hm⟩
      obtain ⟨w3, hw3⟩ : ∃ v, v = w2.alloc (.cells #[.int .i64 x] 3) := ⟨_, rfl⟩
      have b3 : Below w2.heap.size w2 w3 := by rw [hw3]; exact (Below.refl _ _).alloc (Nat.le_refl _) _
      have tc : w3.cell? ⟨w2.heap.size, 0, none⟩ = some (.int .i64 x) := by rw [hw3]; simp [go_sem]
      have s2 := hm.size
      have s3 := b3.size
      have ow3 := World.ownsRow.kept (World.ownsRow.kept (unhide OW) (grown_mov hm) (Or.inr (by simp [Value.ownBlock]; omega))) (⟨b3.os, b3.tape, b3.output, b3.size, fun k hk _ => b3.block k hk⟩ : w2.grownBy w3 none) (Or.inr (by simp [Value.ownBlock]))
      obtain ⟨g2, cap2, w4, hrun, ow4, gr4, hg2⟩ := int_append w3 B0 g k c L x w2.heap.size ow3 tc (by omega) (by omega)
      have m4 := mov_of_grown gr4
      have s4 := gr4.size
      have HD4 := hide (((((unhide HD).mov hm hb).later b3).mov m4 (by omega)))
      have R4 : Rd w4 R (N + (k + 1)) := ((hRn.below b3).other m4 (by omega)).mono (by omega)
      have M4 : Mov R w w4 := ((MV.trans hm).from b3).grown gr4 (fun j h => by
        have e : g = j := by simpa using h
        omega)
      have OW4 := hide ow4
      rw [hw3] at hrun
      have HR := hide hrun
      clear hrun ow3 ow4 gr4 m4 tc b3 hw3 hRn hm hR MV OW HD c0 c1 t1 t2 t3 t4
      go_wp2_with (first | (at_builtin; refine wpList_append_run _ rfl (.tmp 14) (.tmp 25) 24 rfl _ _ _ _ rfl rfl (unhide HR) ?_))
      go_roundw
      case rel => exact ⟨k + 1, L ++ [x], g2, cap2, by omega, by have : L.length = k := unhide HL; simp [this], by go_num, rfl, by omega, unhide OW4, unhide HD4, R4, M4, by omega⟩
      case measure => simp [intOf]; omega
    · have ek : k = n := by omega
      subst ek
      go_wp2_with fail
      refine (pick_any R _ _ _ hR (by omega) (by omega) (by omega)).mono ?_
      rintro e w2 ⟨p, rfl, p0, p1, hRn, hm⟩
      have s2 := hm.size
      have OW2 := hide (World.ownsRow.kept (unhide OW) (grown_mov hm) (Or.inr (by simp [Value.ownBlock]; omega)))
      have M2 := MV.trans hm
      have oc := own_cap (unhide OW2)
      have o1 := oc.1
      have o2 := oc.2
      clear OW hm MV HD oc hR
      by_cases e0 : p = 0
      · subst e0
        obtain ⟨w3, hw3⟩ : ∃ v, v = w2.alloc (.cells #[.int .i64 0] 3) := ⟨_, rfl⟩
        have b3 : Below w2.heap.size w2 w3 := by rw [hw3]; exact (Below.refl _ _).alloc (Nat.le_refl _) _
        have tc : w3.cell? ⟨w2.heap.size, 0, none⟩ = some (.int .i64 0) := by rw [hw3]; simp [go_sem]
        have s3 := b3.size
        have ow3 := World.ownsRow.kept (unhide OW2) (⟨b3.os, b3.tape, b3.output, b3.size, fun k hk _ => b3.block k hk⟩ : w2.grownBy w3 none) (Or.inr (by simp [Value.ownBlock]))
        obtain ⟨g2, cap2, w4, hrun, ow4, gr4, hg2⟩ := int_append w3 B0 g k c L 0 w2.heap.size ow3 tc (by omega) (by omega)
        have m4 := mov_of_grown gr4
        have s4 := gr4.size
        have R4 : Rd w4 R (N + k + 3) := ((hRn.below b3).other m4 (by omega)).mono (by omega)
        have M4 : Mov R w w4 := (M2.from b3).grown gr4 (fun j h => by
          have e : g = j := by simpa using h
          omega)
        have EI := hide (own_ints ow4 (by have : L.length = k := unhide HL; simp [this]))
        have c4 := own_cap ow4
        have c5 := c4.1
        have c6 := c4.2
        rw [hw3] at hrun
        have HR := hide hrun
        clear hrun ow3 ow4 gr4 m4 tc b3 hw3 hRn M2 OW2 c4
        go_wp2_with (first | (at_builtin; refine wpList_append_run _ rfl (.tmp 31) (.tmp 32) 24 rfl _ _ _ _ rfl rfl (unhide HR) ?_))
        go_ret
        exact ⟨⟨g2, k + 1, cap2, _, rfl, c5, Nat.le_refl _, by omega, c6, unhide EI⟩, R4, M4⟩
      · have d0 : (p == 0) = false := by simp [e0]
        have EI := hide (own_ints (unhide OW2) (unhide HL))
        by_cases e1 : p = 1
        · subst e1
          by_cases hk0 : k = 0
          · subst hk0
            go_wp2
            go_ret
            exact ⟨⟨g, 0, c, _, rfl, o1, by omega, by omega, o2, unhide EI⟩, hRn.mono (by omega), M2⟩
          · have dk : decide (0 < (k : Int)) = true := by simp; omega
            go_wp2_with fail
            obtain ⟨w3, hw3⟩ : ∃ v, v = w2.alloc (.cells #[.int .i64 (-1), .int .i64 16, .int .i64 9223372036854775807] 3) := ⟨_, rfl⟩
            have b3 : Below w2.heap.size w2 w3 := by rw [hw3]; exact (Below.refl _ _).alloc (Nat.le_refl _) _
            have hnums : ∀ i, i < 3 → w3.cell? ⟨w2.heap.size, i, none⟩ = some (.int .i64 (([-1, 16, 9223372036854775807] : List Int).getD i 0)) := by
              intro i hi
              rw [hw3]
              have : i = 0 ∨ i = 1 ∨ i = 2 := by omega
              rcases this with rfl | rfl | rfl <;> simp [go_sem]
            rw [← hw3]
            refine (num_any R _ w2.heap.size 3 [-1, 16, 9223372036854775807] _ rfl (hRn.below b3) (by omega) (by omega) (by omega) (by omega) hnums).mono ?_
            rintro e w4 ⟨jn, hjn, rfl, hR4, hm⟩
            have s3 := b3.size
            have s4 := hm.size
            have ow4 := World.ownsRow.kept (World.ownsRow.kept (unhide OW2) (⟨b3.os, b3.tape, b3.output, b3.size, fun k hk _ => b3.block k hk⟩ : w2.grownBy w3 none) (Or.inr (by simp [Value.ownBlock]))) (grown_mov hm) (Or.inr (by simp [Value.ownBlock]; omega))
            have M4 := (M2.from b3).trans hm
            have ei := own_ints ow4 (unhide HL)
            have q0 := ei 0 (by omega)
            rw [Nat.zero_add] at q0
            have f0 : w4.frozen? ⟨g, 0, none⟩ = false := by
              rcases ow4.2 with ⟨h', _⟩ | ⟨g', cap', cur, h', _, hg', _⟩
              · cases h'
              · simp at h'
                obtain ⟨rfl, rfl⟩ := h'
                simp [World.frozen?, hg']
            have gl4 := (own_cap ow4).2
            generalize ([-1, 16, 9223372036854775807] : List Int).getD jn 0 = x
            have EI5 : Hid (Ints (w4.setCell ⟨g, 0, none⟩ (.int .i64 x)) g 0 k (fun i => if i = 0 then x else L.getD i 0)) := by
              intro i hi
              by_cases e : i = 0
              · subst e
                simp only [if_true, Nat.zero_add]
                exact World.cell?_setCell_same _ _ _ q0
              · simp only [if_neg e]
                rw [World.cell?_setCell_other _ _ _ _ (by simp <;> omega)]
                exact ei i hi
            have R5 := hide ((hR4.set (show R < g by omega) 0 (.int .i64 x)).mono (show N + k + 1 + 1 ≤ N + k + 3 by omega))
            have M5 := hide (M4.setNew (show w.heap.size ≤ g by omega) 0 (.int .i64 x))
            clear hnums hw3 b3 hm hR4 hRn M2 M4 ow4 ei OW2 EI
            go_wp2
            go_ret
            exact ⟨⟨g, k, c, _, rfl, o1, by omega, by omega, by simpa using gl4, unhide EI5⟩, unhide R5, unhide M5⟩
        · have d1 : (p == 1) = false := by simp [e1]
          go_wp2
          go_ret
          exact ⟨⟨g, k, c, _, rfl, o1, by omega, by omega, o2, unhide EI⟩, hRn.mono (by omega), M2⟩
end Go.Proofs.Ytaikhigeoebkjaa
