/- What the model's draw of names returns: one to four names of one to four bits, in a list of its own; the reader moves on, nothing else that was there turns. -/
import Derived.Test.YtaikhigeoebkjaaRd
import Derived.Test.YtaikhigeoebkjaaGrwA
import Derived.Test.YtaikhigeoebkjaaDecA
namespace Go.Proofs.Ytaikhigeoebkjaa
open Go.ChangeShapes Go.WideShapes Go.ChangeAt Go.RowKit Go.Joins
set_option linter.unusedVariables false

theorem Decs.mov {w w' : World} {b off n R : Nat} {S : Nat → ByteArray} {V : Nat → Int} (h : Decs w b off n S V) (hm : Mov R w w') (hR : b ≠ R) : Decs w' b off n S V :=
  fun i hi => ⟨hm.cell (h i hi).1 hR, hm.cell (h i hi).2 hR⟩
/-- Names as cells. -/
def dcells (L : List (ByteArray × Int)) : List Value := L.flatMap (fun p => [.string p.1, .int .i64 p.2])
theorem dcells_snoc (L : List (ByteArray × Int)) (p : ByteArray × Int) : dcells (L ++ [p]) = dcells L ++ [.string p.1, .int .i64 p.2] := by simp [dcells]
theorem dcells_at : ∀ (L : List (ByteArray × Int)) (i : Nat) (h : i < L.length), (dcells L)[i * 2]? = some (.string (L[i]).1) ∧ (dcells L)[i * 2 + 1]? = some (.int .i64 (L[i]).2)
  | [], i, h => by simp at h
  | p :: L, 0, h => by simp [dcells]
  | p :: L, i + 1, h => by
    have e : dcells (p :: L) = .string p.1 :: .int .i64 p.2 :: dcells L := rfl
    have h' : i < L.length := by simpa using h
    obtain ⟨a, b⟩ := dcells_at L i h'
    rw [e]
    refine ⟨?_, ?_⟩
    · rw [show (i + 1) * 2 = i * 2 + 1 + 1 by omega]; simpa using a
    · rw [show (i + 1) * 2 + 1 = i * 2 + 1 + 1 + 1 by omega]; simpa using b
/-- A list of names of one's own, as names. -/
theorem own_decs {w : World} {base g n cap : Nat} {e : TypeId} {L : List (ByteArray × Int)} (h : w.ownsRow base e 2 (.slice (some ⟨g, 0, none⟩) n cap) n (dcells L)) (hn : n = L.length) :
    Decs w g 0 n (fun i => (L.getD i (ByteArray.empty, 0)).1) (fun i => (L.getD i (ByteArray.empty, 0)).2) := by
  intro i hi
  have hl : i < L.length := by omega
  obtain ⟨a, b⟩ := dcells_at L i hl
  have hc := h.cells (g := g) rfl
  have ha := hc _ _ a
  have hb := hc _ _ b
  rw [Go.WideShapes.add_plain, Nat.zero_add] at ha hb
  have e1 : L.getD i (ByteArray.empty, 0) = L[i] := by simp [List.getD, hl]
  simp only [e1, Nat.zero_add]
  exact ⟨ha, hb⟩
def sumL : List (ByteArray × Int) → Int
  | [] => 0
  | p :: L => p.2 + sumL L
theorem sumL_snoc : ∀ (L : List (ByteArray × Int)) (p : ByteArray × Int), sumL (L ++ [p]) = sumL L + p.2
  | [], p => by simp [sumL]
  | q :: L, p => by
    have := sumL_snoc L p
    simp only [List.cons_append, sumL, this]
    omega
theorem l1Min_any (a b : Int) (w : World) : Calls Try.prog 21 #[.int .i64 a, .int .i64 b] w fun e w' => e = .returned (.int .i64 (min a b)) ∧ w' = w := by
  by_cases h : a < b
  · have k : decide (a < b) = true := by simp [h]
    go_enter Try.func21, Try.ntmps21
    go_wp2
    go_ret
    exact ⟨ret_int (by omega), rfl⟩
  · have k : decide (a < b) = false := by simp; omega
    go_enter Try.func21, Try.ntmps21
    go_wp2
    go_ret
    exact ⟨ret_int (by omega), rfl⟩
theorem infoDeclD : (Try.prog.info? 30).map (fun i => (i.zero, i.size, i.bytes)) = some (some (.agg #[.string ByteArray.empty, .int .i64 0]), 2, 24) := by kernel_rfl
/-- What a draw of names gives. -/
def DrewD (w w' : World) (e : Ending) : Prop := ∃ (g n cap : Nat) (S : Nat → ByteArray) (V : Nat → Int), e = .returned (.slice (some ⟨g, 0, none⟩) n cap) ∧ n ≤ cap ∧ 1 ≤ n ∧ n ≤ 4 ∧ w.heap.size ≤ g ∧ g < w'.heap.size ∧ Decs w' g 0 n S V ∧ ∀ i, i < n → 1 ≤ V i ∧ V i ≤ 4 ∧ (S i).size ≤ 4
set_option maxHeartbeats 4000000 in
theorem l2Decls_any (R N : Nat) (w : World) (hR : Rd w R N) (hN : N ≤ 900000) :
    Calls Try.prog 11 #[.pointer (some ⟨R, 0, none⟩)] w fun e w' => DrewD w w' e ∧ Rd w' R (N + 20) ∧ Mov R w w' := by
  have hlt := hR.lt
  obtain ⟨i0, hi0, hzz⟩ := Option.map_eq_some_iff.1 infoDeclD
  simp only [Prod.mk.injEq] at hzz
  have HI := hide hi0
  have HZ := hide hzz
  clear hi0 hzz
  go_enter Try.func11, Try.ntmps11
  go_wp2_with fail
  obtain ⟨w1, hw1⟩ : ∃ v, v = (w.alloc (.cells #[.string ⟨#[120]⟩, .string ⟨#[121]⟩, .string ⟨#[122]⟩, .string ⟨#[119]⟩] 9)).alloc (.cells #[] 30) := ⟨_, rfl⟩
  have b1 : Below w.heap.size w w1 := by rw [hw1]; exact ((Below.refl _ _).alloc (Nat.le_refl _) _).alloc (by simp) _
  have n0 : ∀ j, j < 4 → ∃ s : ByteArray, s.size ≤ 4 ∧ w1.cell? ⟨w.heap.size, j, none⟩ = some (.string s) := by
    intro j hj
    rw [hw1]
    have : j = 0 ∨ j = 1 ∨ j = 2 ∨ j = 3 := by omega
    rcases this with rfl | rfl | rfl | rfl
    · exact ⟨⟨#[120]⟩, by decide, by simp [go_sem]⟩
    · exact ⟨⟨#[121]⟩, by decide, by simp [go_sem]⟩
    · exact ⟨⟨#[122]⟩, by decide, by simp [go_sem]⟩
    · exact ⟨⟨#[119]⟩, by decide, by simp [go_sem]⟩
  have o0 : w1.ownsRow (w.heap.size + 1) 30 2 (.slice (some ⟨w.heap.size + 1, 0, none⟩) 0 0) 0 (dcells []) := by
    refine ⟨rfl, .inr ⟨w.heap.size + 1, 0, #[], rfl, Nat.le_refl _, ?_, Nat.le_refl _, by unfold maxLen; omega, rfl, rfl⟩⟩
    rw [hw1]
    have := heap_alloc_new (w.alloc (.cells #[.string ⟨#[120]⟩, .string ⟨#[121]⟩, .string ⟨#[122]⟩, .string ⟨#[119]⟩] 9)) (.cells #[] 30)
    simpa using this
  have hw1l : w1.heap.size = w.heap.size + 2 := by rw [hw1]; simp
  rw [← hw1]
  have R1 := hR.below b1
  have M1 : Mov R w w1 := Mov.of b1
  obtain ⟨NB, hNB⟩ : ∃ x, x = w.heap.size := ⟨_, rfl⟩
  rw [← hNB] at n0 o0 hw1l
  rw [← hNB]
  have hNR : NB ≠ R := by omega
  have hNw : w.heap.size ≤ NB := by omega
  have hRN : R < NB := by omega
  have HNB := hide hNB
  clear hw1 b1 hR hNB
  go_loopw [6, 4, 5] (fun i v bt wr => ∃ (k : Nat) (L : List (ByteArray × Int)) (g cap : Nat), k ≤ 4 ∧ L.length = k ∧ i = .int .i64 k ∧ v = .slice (some ⟨g, 0, none⟩) k cap ∧ NB < g ∧ bt = .int .i64 (sumL L) ∧ 0 ≤ sumL L ∧ sumL L ≤ 8 ∧ (k = 0 → sumL L = 0) ∧ (∀ p, p ∈ L → 1 ≤ p.2 ∧ p.2 ≤ 4 ∧ p.1.size ≤ 4) ∧ wr.ownsRow (NB + 1) 30 2 v k (dcells L) ∧ (∀ j, j < 4 → ∃ s : ByteArray, s.size ≤ 4 ∧ wr.cell? ⟨NB, j, none⟩ = some (.string s)) ∧ Rd wr R (N + 2 * k) ∧ Mov R w wr ∧ NB + 2 ≤ wr.heap.size) (fun i _ _ _ => 4 - (intOf i).toNat)
  case atStart => exact ⟨0, [], NB + 1, 0, by omega, rfl, rfl, rfl, by omega, rfl, by simp [sumL], by simp [sumL], fun _ => rfl, fun p hp => by simp at hp, o0, n0, R1, M1, by omega⟩
  case round =>
    clear o0 n0 R1 M1 hw1l
    obtain ⟨k, L, g, cap, hk, hL, rfl, rfl, hg, rfl, s0, s8, sz, hall, hown, hnm, hR, hM, hsz⟩ := hrel
    have HA := hide hall
    have HO := hide hown
    have HNM := hide hnm
    have gl : g < wr.heap.size := (World.ownsRow.lt hown g rfl).2
    have HSZ := hide sz
    have HLL := hide hL
    clear hall hown hnm
    obtain ⟨sm, hsm⟩ : ∃ x, x = sumL L := ⟨_, rfl⟩
    rw [← hsm] at s0 s8 HSZ ⊢
    have HSM := hide hsm
    clear hsm sz hL
    go_wp2_with fail
    refine (pick_any R _ _ _ hR (by omega) (by omega) (by omega)).mono ?_
    rintro e w2 ⟨p, rfl, p0, p1, hR2, hM2⟩
    have HO2 := hide (World.ownsRow.kept (unhide HO) (grown_mov hM2) (Or.inr (by simp [Value.ownBlock]; omega)))
    have HN2 : Hid (∀ j, j < 4 → ∃ s : ByteArray, s.size ≤ 4 ∧ w2.cell? ⟨NB, j, none⟩ = some (.string s)) := fun j hj => by
      obtain ⟨s, h1, h2⟩ := unhide HNM j hj
      exact ⟨s, h1, hM2.cell h2 hNR⟩
    have MM2 := hM.trans hM2
    have hs2 := hM2.size
    clear HO HNM hM hR
    by_cases c1 : (k : Int) < 1 + p
    · have d1 : decide ((k : Int) < 1 + p) = true := by simp; omega
      by_cases c2 : k < 4
      · have d2 : decide ((k : Int) < 4) = true := by simp; omega
        go_wp2_with fail
        refine (pick_any R _ _ _ hR2 (by omega) (by omega) (by omega)).mono ?_
        rintro e w3 ⟨q, rfl, q0, q1, hR3, hM3⟩
        have HO3 := hide (World.ownsRow.kept (unhide HO2) (grown_mov hM3) (Or.inr (by simp [Value.ownBlock]; omega)))
        have HN3 : Hid (∀ j, j < 4 → ∃ s : ByteArray, s.size ≤ 4 ∧ w3.cell? ⟨NB, j, none⟩ = some (.string s)) := fun j hj => by
          obtain ⟨s, h1, h2⟩ := unhide HN2 j hj
          exact ⟨s, h1, hM3.cell h2 hNR⟩
        have MM3 := MM2.trans hM3
        have hs3 := hM3.size
        clear HO2 HN2 MM2 hR2 hM2 hM3
        go_wp2_with fail
        refine (l1Min_any _ _ _).mono ?_
        rintro e w3 ⟨rfl, rfl⟩
        obtain ⟨mn, hmn⟩ : ∃ x, x = min (1 + q) (8 - sm) := ⟨_, rfl⟩
        rw [← hmn]
        have mn1 : mn ≤ 1 + q := by omega
        have mn2 : mn ≤ 8 - sm := by omega
        have HM3 : Hid (sm = 0 → 1 ≤ mn) := fun h => by omega
        clear hmn
        by_cases c3 : mn < 1
        · have d3 : decide (mn < 1) = true := by simp; omega
          have hk1 : 1 ≤ k := by
            by_cases e : k = 0
            · have := unhide HM3 (unhide HSZ e); omega
            · omega
          have HD := hide (own_decs (unhide HO3) (unhide HLL).symm)
          have hcap : k ≤ cap := by
            rcases (unhide HO3).2 with ⟨h, _⟩ | ⟨g', cap', cur, h, _, _, h', _⟩
            · cases h
            · simp at h <;> omega
          go_wp2
          go_ret
          refine ⟨⟨g, k, cap, _, _, rfl, hcap, hk1, hk, by omega, by omega, unhide HD, fun i hi => ?_⟩, hR3.mono (by omega), MM3⟩
          have : (L.getD i (ByteArray.empty, 0)) ∈ L := by simp [List.getD, show i < L.length by have := unhide HLL; omega]
          exact unhide HA _ this
        · have d3 : decide (mn < 1) = false := by simp; omega
          obtain ⟨sk, hsk, cn⟩ := unhide HN3 k c2
          obtain ⟨w4, hw4⟩ : ∃ v, v = w3.alloc (.cells #[.string sk, .int .i64 mn] 30) := ⟨_, rfl⟩
          have b4 : Below w3.heap.size w3 w4 := by rw [hw4]; exact (Below.refl _ _).alloc (Nat.le_refl _) _
          have t0 : w4.cell? ⟨w3.heap.size, 0, none⟩ = some (.string sk) := by rw [hw4]; simp [go_sem]
          have t1 : w4.cell? ⟨w3.heap.size, 1, none⟩ = some (.int .i64 mn) := by rw [hw4]; simp [go_sem]
          obtain ⟨hz0, hz1, hz2⟩ := unhide HZ
          obtain ⟨g2, cap2, w5, hrun, ow5, gr5, hg2⟩ := append_where (P := Try.prog) w4 (NB + 1) 23 23 30 i0 _ 2 24 Try.underlying23 (unhide HI) hz0 hz1 hz2 rfl (by omega) g k cap (dcells L) (World.ownsRow.kept (unhide HO3) (⟨b4.os, b4.tape, b4.output, b4.size, fun k hk _ => b4.block k hk⟩ : w3.grownBy w4 none) (Or.inr (by simp [Value.ownBlock]))) ⟨w3.heap.size, 0, none⟩ 1 1 [.string sk, .int .i64 mn] rfl (by
            intro j u hj
            rw [Go.WideShapes.add_plain, Nat.zero_add]
            match j, hj with
            | 0, hj => simp at hj; rw [← hj]; exact t0
            | 1, hj => simp at hj; rw [← hj]; exact t1
            | j + 2, hj => simp at hj) (by intro u hu; simp at hu; rcases hu with rfl | rfl <;> rfl) (by unfold maxLen; omega) (by omega) (by have := b4.size; omega)
          have M5 := mov_of_grown gr5
          have s4 := b4.size
          have s5 := gr5.size
          have HN5 : Hid (∀ j, j < 4 → ∃ s : ByteArray, s.size ≤ 4 ∧ w5.cell? ⟨NB, j, none⟩ = some (.string s)) := fun j hj => by
            obtain ⟨s, h1, h2⟩ := unhide HN3 j hj
            exact ⟨s, h1, M5.cell (cell_later b4 h2) (by simp; omega)⟩
          have HO5 : Hid (w5.ownsRow (NB + 1) 30 2 (.slice (some ⟨g2, 0, none⟩) (k + 1) cap2) (k + 1) (dcells (L ++ [(sk, mn)]))) := by show World.ownsRow _ _ _ _ _ _ _; rw [dcells_snoc]; exact ow5
          have R5 : Rd w5 R (N + 2 * (k + 1)) := ((hR3.below b4).other M5 (by omega)).mono (by omega)
          have MM5 : Mov R w w5 := (MM3.from b4).grown gr5 (fun j h => by
            have e : g = j := by simpa using h
            omega)
          have HS5 : Hid (sumL (L ++ [(sk, mn)]) = sm + mn) := by show _ = _; rw [sumL_snoc, ← unhide HSM]
          rw [hw4] at hrun
          have HR := hide hrun
          clear hrun ow5 gr5 M5 t0 t1 b4 hw4 hz0 hz1 hz2
          go_wp2_with (first | (at_builtin; refine wpList_append_run _ rfl (.tmp 29) (.tmp 36) 23 rfl _ _ _ _ rfl rfl (unhide HR) ?_))
          go_roundw
          case rel =>
            refine ⟨k + 1, L ++ [(sk, mn)], g2, cap2, by omega, by simp [unhide HLL], by go_num, rfl, by omega, by rw [unhide HS5], by rw [unhide HS5]; omega, by rw [unhide HS5]; omega, fun h => by omega, ?_, unhide HO5, unhide HN5, R5, MM5, by omega⟩
            intro p hp
            rcases List.mem_append.1 hp with hp | hp
            · exact unhide HA p hp
            · simp only [List.mem_singleton] at hp
              subst hp
              exact ⟨by omega, by omega, hsk⟩
          case measure => simp [intOf]; omega
      · have d2 : decide ((k : Int) < 4) = false := by simp; omega
        have HD := hide (own_decs (unhide HO2) (unhide HLL).symm)
        have hcap : k ≤ cap := by
          rcases (unhide HO2).2 with ⟨h, _⟩ | ⟨g', cap', cur, h, _, _, h', _⟩
          · cases h
          · simp at h <;> omega
        go_wp2
        go_ret
        refine ⟨⟨g, k, cap, _, _, rfl, hcap, by omega, hk, by omega, by omega, unhide HD, fun i hi => ?_⟩, hR2.mono (by omega), MM2⟩
        have : (L.getD i (ByteArray.empty, 0)) ∈ L := by simp [List.getD, show i < L.length by have := unhide HLL; omega]
        exact unhide HA _ this
    · have d1 : decide ((k : Int) < 1 + p) = false := by simp; omega
      have HD := hide (own_decs (unhide HO2) (unhide HLL).symm)
      have hcap : k ≤ cap := by
        rcases (unhide HO2).2 with ⟨h, _⟩ | ⟨g', cap', cur, h, _, _, h', _⟩
        · cases h
        · simp at h <;> omega
      go_wp2
      go_ret
      refine ⟨⟨g, k, cap, _, _, rfl, hcap, by omega, hk, by omega, by omega, unhide HD, fun i hi => ?_⟩, hR2.mono (by omega), MM2⟩
      have : (L.getD i (ByteArray.empty, 0)) ∈ L := by simp [List.getD, show i < L.length by have := unhide HLL; omega]
      exact unhide HA _ this
end Go.Proofs.Ytaikhigeoebkjaa
