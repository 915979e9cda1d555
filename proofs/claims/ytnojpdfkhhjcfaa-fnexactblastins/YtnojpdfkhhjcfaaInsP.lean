/- What comes in for numbers of names, of the program. -/
import Derived.Test.YtnojpdfkhhjcfaaInbP
import Derived.Test.YtnojpdfkhhjcfaaInsS
import Derived.Test.YtnojpdfkhhjcfaaRngA
namespace Go.Proofs.Ytnojpdfkhhjcfaa
open Go.ChangeShapes Go.WideShapes Go.ChangeAt Go.RowKit Go.Joins
set_option linter.unusedVariables false
set_option linter.unusedSimpArgs false

set_option maxHeartbeats 2000000 in
theorem iBlastIns_any (b off n cap : Nat) (S : Nat → ByteArray) (V : Nat → Int) (c off' m cap' : Nat) (E : Nat → Int) (w : World) (hb : b < w.heap.size) (hd : Decs w b off n S V) (hnc : n ≤ cap) (hn : n ≤ 1048576) (hs : ∀ i, i < n → (S i).size ≤ 1048576)
    (hc : c < w.heap.size) (he : Ints w c off' m E) (hm : m ≤ 1048576) :
    Calls Try.prog 9 #[.slice (some ⟨b, off, none⟩) n cap, .slice (some ⟨c, off', none⟩) m cap'] w fun e w' => (∃ a cp, e = .returned (.slice a (binL n m S V E).length cp) ∧ BlsAt w' a (binL n m S V E).length (atB (binL n m S V E)) ∧ OwnB w' w.heap.size a (binL n m S V E).length) ∧ Below w.heap.size w w' := by
  have HD := hide hd
  have HS := hide hs
  have HE := hide he
  clear hd hs he
  go_enter Try.func9, Try.ntmps9
  go_wp2_with fail
  refine (iEnvOk_any _ _ _ _ _ _ _ _ _ _ _ _ hb (unhide HD) hnc hn (unhide HS) hc (unhide HE) hm).mono ?_
  rintro e w1 ⟨rfl, B1⟩
  by_cases hP : EnvP n m S V E
  · have hnm := hP.2.1
    subst hnm
    have hPb := envB_yes hP
    have HN := hide (binL_yes hP)
    have HVB : Hid (∀ i, i < n → okB (V i) (E i) = true) := hP.2.2
    have HV : Hid (∀ i, i < n → 1 ≤ V i ∧ V i ≤ 4) := fun i hi => ⟨(okB_bd (unhide HVB i hi)).1, (okB_bd (unhide HVB i hi)).2.1⟩
    have h4 := hP.1.1
    have hle := prL_le hP.1
    clear hP
    go_wp2_with fail
    refine (inBits_any _ _ _ _ S V _ (Nat.lt_of_lt_of_le hb B1.size) ((unhide HD).later B1) h4 (unhide HV)).mono ?_
    rintro e w2 ⟨⟨g, cp, rfl, pr, hg, hgb⟩, b2⟩
    have B2 := B1.trans (b2.mono B1.size)
    have HP := hide pr
    have HLM : Hid (∀ k, k < (prL V n).length → (pAt (prL V n) k).1 < n ∧ ((pAt (prL V n) k).2 : Int) < V (pAt (prL V n) k).1) := fun k hk => prL_mem (fun i hi => (unhide HV i hi).1) (pAt_mem hk)
    have HAT : Hid (∀ k, k < (prL V n).length → atB (insL V E n 0) k = bitB (E (pAt (prL V n) k).1) (pAt (prL V n) k).2) := fun k hk => insL_at hk
    have hln : (insL V E n 0).length = (prL V n).length := by rw [insL_len]; rfl
    have HLN := hide hln
    have hw2 := B2.size
    clear pr b2 hln B1
    generalize hl : (prL V n).length = l at *
    have hmk := run_make_wide (P := Try.prog) 25 4 _ 1 1 Try.underlying25 infoBool .i64 .i64 l (by omega) (by omega)
    simp only [Nat.mul_one] at hmk
    have HPR : Hid (∀ k, k < l → w2.cell? ⟨g, k * 2, none⟩ = some (.int .i64 ((pAt (prL V n) k).1 : Int)) ∧ w2.cell? ⟨g, k * 2 + 1, none⟩ = some (.int .i64 ((pAt (prL V n) k).2 : Int))) := fun k hk => by
      have h := unhide HP k (by rw [hl]; exact hk)
      rw [Nat.zero_add] at h
      exact h
    clear HP hl
    generalize pAt (prL V n) = pa at *
    go_wp2
    go_loopw [20] (fun i wr => ∃ k : Nat, k ≤ l ∧ i = .int .i64 k ∧ Bls wr w2.heap.size 0 k (atB (insL V E n 0)) ∧ Made wr w2.heap.size l ∧ Below w2.heap.size w2 wr) (fun i _ => l - (intOf i).toNat)
    case atStart => exact ⟨0, by omega, rfl, fun i hi => by omega, Made.new _ _ _ _, (Below.refl _ _).alloc (Nat.le_refl _) _⟩
    case round =>
      obtain ⟨k, hk, rfl, hdk, hmd, hbel⟩ := hrel
      have HK := hide hdk
      have HM := hide hmd
      clear hdk hmd
      have hlt0 := (unhide HM).1
      by_cases hlt : k < l
      · obtain ⟨c0, c1⟩ := unhide HPR k hlt
        have d0 := cell_later hbel c0
        have d1 := cell_later hbel c1
        obtain ⟨a1, a2⟩ := unhide HLM k hlt
        have hat := unhide HAT k hlt
        clear c0 c1
        generalize (pa k).1 = a at *
        generalize (pa k).2 = q at *
        obtain ⟨_, v4, e0, e1⟩ := okB_bd (unhide HVB a a1)
        have q3 : q ≤ 3 := by omega
        have E0 := (B2.trans (hbel.mono hw2)).cell (p := ⟨c, off' + a, none⟩) hc |>.trans (unhide HE a a1)
        have HBV : Hid (atB (insL V E n 0) k = (E a / two (q : Int) % 2 == 1)) := hat
        have ea : (a : Int) < (n : Int) := by omega
        clear a2 hat
        obtain ⟨wy, hwy⟩ : ∃ wy, wy = wr.alloc (.cells #[.int .i64 (a : Int), .int .i64 (q : Int)] 50) := ⟨_, rfl⟩
        have by1 : Below wr.heap.size wr wy := by rw [hwy]; exact (Below.refl _ _).alloc (Nat.le_refl _) _
        have x0 : wy.cell? ⟨wr.heap.size, 0, none⟩ = some (.int .i64 (a : Int)) := by rw [hwy]; simp [go_sem]
        have x1 : wy.cell? ⟨wr.heap.size, 1, none⟩ = some (.int .i64 (q : Int)) := by rw [hwy]; simp [go_sem]
        have E1 := cell_later by1 E0
        have HMy := hide ((unhide HM).later by1)
        have HKy := hide ((unhide HK).later by1)
        have hby := hbel.trans (by1.mono hbel.size)
        have HY := hide hwy
        have HWR : Hid (IntKind.u32.wrap (E a) = E a) := by show _ = _; rw [IntKind.wrap_u32]; omega
        obtain ⟨⟨u0, q0⟩, f0⟩ := (unhide HMy).2 k (by omega)
        have HPUT : Hid (Bls (wy.setCell ⟨w2.heap.size, k, none⟩ (.bool (E a / two (q : Int) % 2 == 1))) w2.heap.size 0 (k + 1) (atB (insL V E n 0))) := by
          have h := (unhide HKy).put q0
          rw [unhide HBV] at h
          exact h
        clear hwy E0 HM HK by1
        go_wp2
        rw [← unhide HY]
        clear HY hbel d0 d1
        generalize wr.heap.size = B at *
        have y0 : ∀ u, ((wy.setCell ⟨w2.heap.size, k, none⟩ u).drew).cell? ⟨B, 0, none⟩ = some (.int .i64 (a : Int)) := fun u => (World.cell?_setCell_other wy _ _ _ (by simp <;> omega)).trans x0
        have y1 : ∀ u, ((wy.setCell ⟨w2.heap.size, k, none⟩ u).drew).cell? ⟨B, 1, none⟩ = some (.int .i64 (q : Int)) := fun u => (World.cell?_setCell_other wy _ _ _ (by simp <;> omega)).trans x1
        have y2 : ∀ u, ((wy.setCell ⟨w2.heap.size, k, none⟩ u).drew).cell? ⟨c, off' + a, none⟩ = some (.int .i64 (E a)) := fun u => (World.cell?_setCell_other wy _ _ _ (by simp <;> omega)).trans E1
        go_region_held3 (fun w' => w'.cell? ⟨B, 0, none⟩ = some (.int .i64 (a : Int)) ∧ w'.cell? ⟨B, 1, none⟩ = some (.int .i64 (q : Int)) ∧ w'.cell? ⟨c, off' + a, none⟩ = some (.int .i64 (E a))) (first | go_keep | exact ⟨x0, x1, E1⟩ | exact ⟨y0 _, y1 _, y2 _⟩)
          (first | (go_at_call 27; refine (wbit_any _ _ _ (by rw [unhide HWR]; omega) (by rw [unhide HWR]; omega) (by omega) (by omega)).mono ?_; rintro e wq ⟨rfl, rfl⟩))
        all_goals go_wp2
        all_goals go_roundw
        case rel => exact ⟨k + 1, by omega, by go_num, unhide HPUT, (unhide HMy).set _ _, (hby.setCell (Nat.le_refl _) _).drew⟩
        case measure => simp [intOf]; omega
      · have e : k = l := by omega
        subst e
        go_wp2
        go_ret
        refine ⟨⟨some ⟨w2.heap.size, 0, none⟩, k, by rw [unhide HN, unhide HLN]; rfl, ?_, ?_⟩, B2.trans (hbel.mono hw2)⟩
        · rw [unhide HN, unhide HLN]; exact (unhide HK).at hlt0
        · rw [unhide HN, unhide HLN]; exact Or.inr ⟨_, rfl, hw2, unhide HM⟩
  · have hPb := envB_no hP
    have HN := hide (binL_no hP)
    clear hP
    go_wp2
    go_ret
    rw [unhide HN]
    exact ⟨⟨_, _, rfl, Or.inl rfl, Or.inl rfl⟩, B1⟩
end Go.Proofs.Ytnojpdfkhhjcfaa
