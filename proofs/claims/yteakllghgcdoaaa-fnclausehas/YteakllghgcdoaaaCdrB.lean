/- What the model's draw of a clause and of a list returns. -/
import Derived.Test.YteakllghgcdoaaaCdrA
import Derived.Test.YteakllghgcdoaaaLeaA
namespace Go.Proofs.Yteakllghgcdoaaa
open Go.ChangeShapes Go.WideShapes Go.ChangeAt Go.RowKit Go.Joins
set_option linter.unusedVariables false

theorem getD_mem {L : List Int} {k : Nat} (h : k < L.length) : L.getD k 0 ∈ L := at0_mem h
/-- Two lists of one's own, one behind the other. -/
theorem int_onto (w : World) (base : Nat) (g n cap0 : Nat) (L M : List Int) (b off m cap : Nat) (hown : w.ownsRow base 3 1 (.slice (some ⟨g, 0, none⟩) n cap0) n (icells L)) (hM : M.length = m) (hi : Ints w b off m (at0 M)) (h63 : n + m ≤ 1000000) (hbase : base ≤ w.heap.size) :
    ∃ g' cap' w', (Builtin.append_ #[23, 23] 23 #[.slice (some ⟨g, 0, none⟩) n cap0, .slice (some ⟨b, off, none⟩) m cap]).run Try.prog w = .ok (.slice (some ⟨g', 0, none⟩) (n + m) cap') w' ∧ w'.ownsRow base 3 1 (.slice (some ⟨g', 0, none⟩) (n + m) cap') (n + m) (icells (L ++ M)) ∧ w.grownBy w' (some g) := by
  obtain ⟨i0, hi0, hzz⟩ := Option.map_eq_some_iff.1 infoInt
  simp only [Prod.mk.injEq] at hzz
  obtain ⟨hz0, hz1, hz2⟩ := hzz
  have e : icells (L ++ M) = icells L ++ icells M := by simp [icells]
  rw [e]
  obtain ⟨g', cap', w', h1, h2, h3, _⟩ := append_where (P := Try.prog) w base 23 23 3 i0 _ 1 8 Try.underlying23 hi0 hz0 hz1 hz2 rfl (by omega) g n cap0 (icells L) hown ⟨b, off, none⟩ m cap (icells M) (by simp [icells, hM]) (by
    intro j u hj
    have hj' : j < M.length := by
      have := (List.getElem?_eq_some_iff.1 hj).1
      simpa [icells] using this
    have := hi j (by omega)
    rw [Go.WideShapes.add_plain, this]
    simp [icells, hj'] at hj
    rw [← hj]
    simp [at0, List.getD, hj']) (by
    intro u hu
    simp [icells] at hu
    obtain ⟨x, _, rfl⟩ := hu
    rfl) (by unfold maxLen; omega) (by omega) hbase
  exact ⟨g', cap', w', h1, h2, h3⟩
/-- A copy of a list. -/
theorem int_copy (w : World) (M : List Int) (b off m cap : Nat) (hM : M.length = m) (hi : IntsAt w (some ⟨b, off, none⟩) m (at0 M)) (h63 : m ≤ 1000000) :
    ∃ g' cap' w', (Builtin.append_ #[23, 23] 23 #[.slice (some ⟨w.heap.size, 0, none⟩) 0 0, .slice (some ⟨b, off, none⟩) m cap]).run Try.prog (w.alloc (.cells #[] 3)) = .ok (.slice (some ⟨g', 0, none⟩) m cap') w' ∧ w'.ownsRow w.heap.size 3 1 (.slice (some ⟨g', 0, none⟩) m cap') m (icells M) ∧ Below w.heap.size w w' := by
  have b4 : Below w.heap.size w (w.alloc (.cells #[] 3)) := (Below.refl _ _).alloc (Nat.le_refl _) _
  have I4 : Ints (w.alloc (.cells #[] 3)) b off m (at0 M) := by
    rcases hi.later b4 with h | ⟨b', off', eb, _, hd⟩
    · subst h; exact fun i hi => by omega
    · simp only [Option.some.injEq, Addr.mk.injEq, and_true] at eb
      obtain ⟨rfl, rfl⟩ := eb
      exact hd
  obtain ⟨g', c', w', h1, h2, h3⟩ := int_onto (w.alloc (.cells #[] 3)) w.heap.size w.heap.size 0 0 [] M b off m cap (own_new _ _ _) hM I4 (by omega) (by simp)
  simp only [Nat.zero_add, List.nil_append] at h1 h2
  exact ⟨g', c', w', h1, h2, b4.trans ((mov_of_grown h3).below (Nat.le_refl _) b4.size)⟩
/-- One of a list that has just been laid down. -/
theorem num_new (R N : Nat) (zs : List Int) (A : Array Value) (L : Nat) (w : World) (hR : Rd w R N) (hN : N ≤ 900000) (hA : A = (icells zs).toArray) (hL : zs.length = L) (l1 : 1 ≤ L) (l2 : L ≤ 1000) :
    Calls Try.prog 33 #[.pointer (some ⟨R, 0, none⟩), .slice (some ⟨w.heap.size, 0, none⟩) L L] (w.alloc (.cells A 3)) fun e w' => ∃ k : Nat, k < L ∧ e = .returned (.int .i64 (zs.getD k 0)) ∧ Rd w' R (N + 1) ∧ Mov R w w' := by
  have rl := hR.lt
  subst hA
  refine (num_any R N w.heap.size L zs _ hL (hR.alloc _) (by omega) (by omega) l1 (by omega) ?_).mono ?_
  · intro i hi
    rw [World.cell?_alloc_new]
    have hi' : i < zs.length := by omega
    simp [icells, List.getD, hi']
  · rintro e w1 ⟨k, hk, rfl, h1, h2⟩
    exact ⟨k, hk, rfl, h1, ((Mov.refl R w).alloc _).trans h2⟩
set_option maxHeartbeats 2000000 in
theorem drawClauseHas_any (a : Option Addr) (l c : Nat) (w : World) (hl : l ≤ 1048576) (hc : l ≤ c) (hcm : c ≤ maxLen) (hby : Byts w w.heap.size a l) :
    Calls Try.prog 9 #[.slice a l c] w fun e w' => ∃ (g n cap q N k : Nat) (L : List Int), e = .returned (.tuple #[.slice (some ⟨g, 0, none⟩) n cap, .slice (some ⟨q, 0, none⟩) N N]) ∧ n ≤ 7 ∧ N ≤ 6 ∧ L.length = n ∧ (∀ x, x ∈ L → W64 x) ∧ IntsAt w' (some ⟨g, 0, none⟩) n (at0 L) ∧ BlsAt w' (some ⟨q, 0, none⟩) N (vls N k) ∧ Below w.heap.size w w' := by
  go_enter Try.func9, Try.ntmps9
  go_wp2_with fail
  refine (open_any _ _ _ _ hl hc hcm hby).mono ?_
  rintro e w1 ⟨rfl, R1, b1⟩
  obtain ⟨R, hRe⟩ : ∃ x, x = w.heap.size := ⟨_, rfl⟩
  rw [← hRe] at R1
  rw [← hRe]
  have HRe := hide hRe
  have hRw : w.heap.size ≤ R := by omega
  clear hRe
  have rl := R1.lt
  have MV1 : Mov R w w1 := Mov.of b1
  have s1 := b1.size
  clear b1
  go_wp2_with fail
  refine (l4Draw_any R 0 6 _ _ R1 (by omega) (by omega) (by omega)).mono ?_
  rintro e w2 ⟨⟨g, n, cap, L, rfl, hn, hL, ow⟩, R2, m2⟩
  have MV2 := MV1.trans m2
  have s2 := m2.size
  have OW := hide ow
  have gb := own_base ow
  have gl := (own_cap ow).2
  have HL : Hid (∀ x, x ∈ L → W64 x) := fun x hx => by have := hL x hx; unfold W64; omega
  clear MV1 m2 ow hL R1
  go_wp2_with fail
  refine (pick_any R _ _ _ R2 (by omega) (by omega) (by omega)).mono ?_
  rintro e w3 ⟨x, rfl, x0, x1, R3, m3⟩
  have MV3 := MV2.trans m3
  have s3 := m3.size
  have OW3 := hide ((unhide OW).kept (grown_mov m3) (Or.inr (by simp [Value.ownBlock]; omega)))
  clear MV2 m3 R2 OW
  by_cases hx : x = 0
  · subst hx
    go_wp2_with fail
    refine (num_new R _ [0, 9, -9, -9223372036854775808, 9223372036854775807] _ 5 w3 R3 (by omega) rfl rfl (by omega) (by omega)).mono ?_
    rintro e w4 ⟨jx, hjx, rfl, R4, m4⟩
    have hz : W64 ([0, 9, -9, -9223372036854775808, 9223372036854775807].getD jx 0) := by
      unfold W64
      match jx, hjx with
      | 0, _ => simp
      | 1, _ => simp
      | 2, _ => simp
      | 3, _ => simp
      | 4, _ => simp
    generalize [0, 9, -9, -9223372036854775808, 9223372036854775807].getD jx 0 = xx at hz
    have OW4 := hide ((unhide OW3).kept (grown_mov m4) (Or.inr (by simp [Value.ownBlock]; omega)))
    have MV4 := MV3.trans m4
    have s4 := m4.size
    obtain ⟨g2, c2, w5, hrun, ow5, gr5, hg2⟩ := int_one w4 w1.heap.size _ n L xx (unhide OW4) (by omega) (by omega)
    have HR := hide hrun
    have OW5 := hide ow5
    have R5 : Rd w5 R (0 + 6 * 2 + 1 + 1) := R4.grown gr5 (fun j h => by simp [Value.ownBlock] at h; omega)
    have MV5 : Mov R w w5 := MV4.grown gr5 (fun j h => by simp [Value.ownBlock] at h; omega)
    have s5 := gr5.size
    have gb2 := own_base ow5
    have gl2 := (own_cap ow5).2
    have HL5 : Hid (∀ x, x ∈ L ++ [xx] → W64 x) := fun x hx => by
      rcases List.mem_append.1 hx with h | h
      · exact unhide HL x h
      · simp at h; subst h; exact hz
    clear hrun ow5 gr5 hg2 OW4 R4 MV4 m4
    go_wp2_with (first | (at_builtin; refine wpList_append_run _ rfl (.tmp 13) (.tmp 17) 23 rfl _ _ _ _ rfl rfl (unhide HR) ?_))
    refine (num_new R _ [6, 6, 6, 3, 0] _ 5 w5 R5 (by omega) rfl rfl (by omega) (by omega)).mono ?_
    rintro e w6 ⟨j, hj, rfl, R6, m6⟩
    have hz : [6, 6, 6, 3, 0].getD j (0 : Int) = 6 ∨ [6, 6, 6, 3, 0].getD j (0 : Int) = 3 ∨ [6, 6, 6, 3, 0].getD j (0 : Int) = 0 := by
      match j, hj with
      | 0, _ => simp
      | 1, _ => simp
      | 2, _ => simp
      | 3, _ => simp
      | 4, _ => simp
    obtain ⟨N, hN, hN6⟩ : ∃ N : Nat, [6, 6, 6, 3, 0].getD j (0 : Int) = N ∧ N ≤ 6 := by
      rcases hz with h | h | h
      · exact ⟨6, h, by omega⟩
      · exact ⟨3, h, by omega⟩
      · exact ⟨0, h, by omega⟩
    rw [hN]
    have OW6 := hide ((unhide OW5).kept (grown_mov m6) (Or.inr (by simp [Value.ownBlock]; omega)))
    have MV6 := MV5.trans m6
    have s6 := m6.size
    clear m6 hz hN
    go_wp2_with fail
    refine (pick_any R _ _ _ R6 (by omega) (by omega) (by omega)).mono ?_
    rintro e w7 ⟨y, rfl, y0, y1, R7, m7⟩
    obtain ⟨k, rfl⟩ := Int.eq_ofNat_of_zero_le y0
    have OW7 := hide ((unhide OW6).kept (grown_mov m7) (Or.inr (by simp [Value.ownBlock]; omega)))
    have MV7 := MV6.trans m7
    have s7 := m7.size
    clear m7 OW6 MV6 R6
    go_wp2_with fail
    refine (l4Vals_any N k _ (by omega) (by omega)).mono ?_
    rintro e w8 ⟨rfl, X, XM, b8⟩
    have MV8 := MV7.from b8
    have I8 := hide ((own_at (unhide OW7)).later b8)
    have V8 := hide (X.at XM.1)
    have HLen := hide (owns_len (unhide OW7))
    clear b8 X XM OW7 MV7
    go_wp2
    exact bodyPost_ret (v := .tuple #[.slice (some ⟨g2, 0, none⟩) (n + 1) c2, .slice (some ⟨w7.heap.size, 0, none⟩) N N]) (by simp [results, Try.results9, go_sem]) rfl ⟨g2, _, c2, _, N, k, (L ++ [xx]), rfl, by omega, hN6, unhide HLen, unhide HL5, unhide I8, unhide V8, MV8.below hRw (Nat.le_refl _)⟩
  · have xb : (x == 0) = false := by simp [hx]
    go_wp2_with fail
    refine (num_new R _ [6, 6, 6, 3, 0] _ 5 w3 R3 (by omega) rfl rfl (by omega) (by omega)).mono ?_
    rintro e w6 ⟨j, hj, rfl, R6, m6⟩
    have hz : [6, 6, 6, 3, 0].getD j (0 : Int) = 6 ∨ [6, 6, 6, 3, 0].getD j (0 : Int) = 3 ∨ [6, 6, 6, 3, 0].getD j (0 : Int) = 0 := by
      match j, hj with
      | 0, _ => simp
      | 1, _ => simp
      | 2, _ => simp
      | 3, _ => simp
      | 4, _ => simp
    obtain ⟨N, hN, hN6⟩ : ∃ N : Nat, [6, 6, 6, 3, 0].getD j (0 : Int) = N ∧ N ≤ 6 := by
      rcases hz with h | h | h
      · exact ⟨6, h, by omega⟩
      · exact ⟨3, h, by omega⟩
      · exact ⟨0, h, by omega⟩
    rw [hN]
    have OW6 := hide ((unhide OW3).kept (grown_mov m6) (Or.inr (by simp [Value.ownBlock]; omega)))
    have MV6 := MV3.trans m6
    have s6 := m6.size
    clear m6 hz hN
    go_wp2_with fail
    refine (pick_any R _ _ _ R6 (by omega) (by omega) (by omega)).mono ?_
    rintro e w7 ⟨y, rfl, y0, y1, R7, m7⟩
    obtain ⟨k, rfl⟩ := Int.eq_ofNat_of_zero_le y0
    have OW7 := hide ((unhide OW6).kept (grown_mov m7) (Or.inr (by simp [Value.ownBlock]; omega)))
    have MV7 := MV6.trans m7
    have s7 := m7.size
    clear m7 OW6 MV6 R6
    go_wp2_with fail
    refine (l4Vals_any N k _ (by omega) (by omega)).mono ?_
    rintro e w8 ⟨rfl, X, XM, b8⟩
    have MV8 := MV7.from b8
    have I8 := hide ((own_at (unhide OW7)).later b8)
    have V8 := hide (X.at XM.1)
    have HLen := hide (owns_len (unhide OW7))
    clear b8 X XM OW7 MV7
    go_wp2
    exact bodyPost_ret (v := .tuple #[.slice (some ⟨g, 0, none⟩) n cap, .slice (some ⟨w7.heap.size, 0, none⟩) N N]) (by simp [results, Try.results9, go_sem]) rfl ⟨g, _, cap, _, N, k, L, rfl, by omega, hN6, unhide HLen, unhide HL, unhide I8, unhide V8, MV8.below hRw (Nat.le_refl _)⟩
end Go.Proofs.Yteakllghgcdoaaa
