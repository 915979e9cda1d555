/- The builder of the program: what it takes, what it tells, one or the other. -/
import Derived.Test.YtmpiiilkaadhfaaDoorBkW
namespace Go.Proofs.YtmpiiilkaadhfaaDoor
open Go.ChangeShapes Go.WideShapes Go.ChangeAt Go.RowKit Go.Joins
set_option linter.unusedVariables false
set_option maxRecDepth 100000
set_option linter.unusedSimpArgs false

/-- Behind a call of holds: cells but the fault stay. -/
theorem takeHeld {w w' : World} {bb gb g R j n c : Nat} {x M : Int} {aF : Addr} {is : Bool} (e0 : w.cell? ⟨R, j, none⟩ = some (.int .i64 x)) (b0 : w.cell? ⟨bb, 0, none⟩ = some (.pointer (some ⟨gb, 0, none⟩))) (g0 : w.cell? ⟨gb, 0, none⟩ = some (.int .i64 M)) (g1 : w.cell? ⟨gb, 1, none⟩ = some (.slice (some ⟨g, 0, none⟩) n c)) (q1 : w.cell? ⟨bb, 1, none⟩ = some .nilIface) (h : is = true ∧ w' = w ∨ is = false ∧ w' = w.setCell ⟨bb, 1, none⟩ (.iface 168 (.pointer (some aF)))) (hn : R ≠ bb ∧ gb ≠ bb) :
    w'.cell? ⟨R, j, none⟩ = some (.int .i64 x) ∧ w'.cell? ⟨bb, 0, none⟩ = some (.pointer (some ⟨gb, 0, none⟩)) ∧ w'.cell? ⟨gb, 0, none⟩ = some (.int .i64 M) ∧ w'.cell? ⟨gb, 1, none⟩ = some (.slice (some ⟨g, 0, none⟩) n c) ∧ Hid (is = true ∧ w' = w ∨ is = false ∧ w' = w.setCell ⟨bb, 1, none⟩ (.iface 168 (.pointer (some aF)))) := by
  refine ⟨?_, ?_, ?_, ?_, h⟩ <;> rcases h with ⟨_, rfl⟩ | ⟨_, rfl⟩
  · exact e0
  · rw [World.cell?_setCell_other _ _ _ _ (by simp [hn])]; exact e0
  · exact b0
  · rw [World.cell?_setCell_other _ _ _ _ (by simp)]; exact b0
  · exact g0
  · rw [World.cell?_setCell_other _ _ _ _ (by simp [hn])]; exact g0
  · exact g1
  · rw [World.cell?_setCell_other _ _ _ _ (by simp [hn])]; exact g1
set_option maxRecDepth 100000 in
set_option maxHeartbeats 800000 in
theorem takeB_any (bb : Nat) (v aF : Addr) (la : Option Addr) (nl cl : Nat) (w : World) (q1 : w.cell? ⟨bb, 1, none⟩ = some (.iface 168 (.pointer (some v)))) (f : w.cell? ⟨0, 0, none⟩ = some (.iface 168 (.pointer (some aF)))) (hl : nl ≤ 1048576) :
    Calls Tryd.prog 35 #[.pointer (some ⟨bb, 0, none⟩), .slice la nl cl] w fun e w' => e = .returned (.slice none 0 0) ∧ w' = w := by
  by_cases h1 : 1 ≤ nl
  · go_enter Tryd.func35, Tryd.ntmps35
    go_wp2_with fail
    refine (holdsB_any bb v aF _ _ q1 f).mono ?_
    rintro e w ⟨rfl, rfl⟩
    go_wp2
    go_ret
    exact ⟨rfl, rfl⟩
  · have h0 : nl = 0 := by omega
    subst h0
    go_enter Tryd.func35, Tryd.ntmps35
    go_wp2_with fail
    refine (holdsB_any bb v aF _ _ q1 f).mono ?_
    rintro e w ⟨rfl, rfl⟩
    go_wp2
    go_ret
    exact ⟨rfl, rfl⟩
set_option maxRecDepth 100000 in
set_option maxHeartbeats 1500000 in
theorem takeG_any (base bb gb B g : Nat) (aF aR : Addr) (m : Int) (n : Nat) (G : Nat → Gt) (la : Option Addr) (nl cl : Nat) (L : List Int) (w : World) (hb : Bld w base bb gb B g aR (kS m n G)) (hs : Sent w base aF aR) (hbase : base ≤ w.heap.size) (hN : netB m n G = true) (hd : IntsAt w la nl (at0 L)) (hL : L.length = nl) (hl : nl ≤ 1048576) (hW : ∀ i, i < nl → W64 (at0 L i)) :
    Calls Tryd.prog 35 #[.pointer (some ⟨bb, 0, none⟩), .slice la nl cl] w fun e w' => (RgtP m n L ∧ e = .returned (.slice (some ⟨w.heap.size, 0, none⟩) nl nl) ∧ w.heap.size < w'.heap.size ∧ Ints w' w.heap.size 0 nl (at0 L) ∧ Below w.heap.size w w') ∨ (¬ RgtP m n L ∧ e = .returned (.slice none 0 0) ∧ Bad w' bb ∧ OutS (S4 bb gb B g) w w') := by
  obtain ⟨hm0, hm1, hn6, _⟩ := netB_iff.1 hN
  obtain ⟨M, rfl⟩ := Int.eq_ofNat_of_zero_le hm0
  have HB := hide hb
  have HS := hide hs
  have HD := hide hd
  have HL := hide hL
  have HW := hide hW
  have f := hs.f
  have z1 := hb.z 1
  have q1 := hb.f1 rfl
  have lbb := hb.lt
  clear hb hs hd hL hW
  by_cases h14 : 1 ≤ nl ∧ nl ≤ 4
  · obtain ⟨h1, h4⟩ := h14
    have hmk := run_make_wide (P := Tryd.prog) 64 81 _ 1 8 Tryd.underlying64 infoMark .i64 .i64 nl (by omega) (by omega)
    simp only [Nat.mul_one] at hmk
    go_enter Tryd.func35, Tryd.ntmps35
    go_wp2_with fail
    rw [show decide ((nl : Int) ≤ 4) = true by simp; omega]
    refine (holdsG_any bb aF true _ q1 z1 f).mono ?_
    rintro e w ⟨rfl, ⟨_, rfl⟩ | ⟨h, _⟩⟩
    rotate_left
    · cases h
    go_wp2
    go_loopw [24] (fun i wr => ∃ j : Nat, j ≤ nl ∧ i = .int .i64 j ∧ (∀ i, i < j → mkP (M : Int) n (at0 L i) = true) ∧ Ints wr w.heap.size 0 j (at0 L) ∧ Made wr w.heap.size nl ∧ Below w.heap.size w wr) (fun i _ => nl - (intOf i).toNat)
    case atStart => exact ⟨0, by omega, rfl, fun i hi => by omega, fun i hi => by omega, Made.new _ _ _ _, (by repeat (first | exact Below.refl _ _ | assumption | refine below_drewN ?_ _ | refine Below.drew ?_ | refine Below.alloc ?_ (by first | exact Nat.le_refl _ | exact Below.size (by assumption) | (simp; done) | (simp; omega)) _ | refine Below.setCell ?_ (by first | exact Nat.le_refl _ | exact Below.size (by assumption) | (simp; done) | (simp; omega)) _ | refine Below.trans ?_ (by assumption)))⟩
    case round =>
      obtain ⟨j, hj, rfl, hok, hin, hmd, hbel⟩ := hrel
      have HK := hide hok
      have HI := hide hin
      have HMD := hide hmd
      by_cases hlt : j < nl
      · obtain ⟨bL, oL, rfl, lL, dL⟩ := at0_in (unhide HD) hlt
        replace dL := (hbel.cell (p := ⟨bL, oL + j, none⟩) lL).trans dL
        have hx64 := unhide HW j hlt
        have hB' : Bld wr base bb gb B g aR (kS M n G) := (unhide HB).later hbel
        obtain ⟨c, hG⟩ := hB'.gr rfl
        obtain ⟨⟨u0, m0⟩, mf⟩ := hmd.2 j hlt
        obtain ⟨x, hx⟩ : ∃ x, x = at0 L j := ⟨_, rfl⟩
        rw [← hx] at dL hx64
        obtain ⟨v, hv⟩ : ∃ v, v = wr.setCell ⟨w.heap.size, j, none⟩ (.int .i64 x) := ⟨_, rfl⟩
        have mv : Mov w.heap.size wr v := by rw [hv]; exact Mov.set _ _ _
        have lgs := (unhide HB).lg
        have b0 : v.cell? ⟨bb, 0, none⟩ = some (.pointer (some ⟨gb, 0, none⟩)) := mv.cell hB'.p (by simp only; omega)
        have q1 : v.cell? ⟨bb, 1, none⟩ = some .nilIface := mv.cell (hB'.f1 rfl) (by simp only; omega)
        have g0 : v.cell? ⟨gb, 0, none⟩ = some (.int .i64 (M : Int)) := mv.cell hG.1.1 (by simp only; omega)
        have g1 : v.cell? ⟨gb, 1, none⟩ = some (.slice (some ⟨g, 0, none⟩) n c) := mv.cell hG.1.2.1 (by simp only; omega)
        have hr2 := (unhide HS).b
        have f0 : v.cell? ⟨0, 0, none⟩ = some (.iface 168 (.pointer (some aF))) := mv.cell ((unhide HS).below hbel hbase).f (by simp only; omega)
        have e0 : v.cell? ⟨w.heap.size, j, none⟩ = some (.int .i64 x) := by rw [hv]; exact World.cell?_setCell_same _ _ _ m0
        have z1 : v.frozen? ⟨bb, 1, none⟩ = false := (World.frozen?_of_block (mv.2.2.2.2 bb hB'.lt (by omega))).trans (hB'.z 1)
        have II : Ints v w.heap.size 0 (j + 1) (at0 L) := by rw [hv, hx]; exact hin.put m0
        have MM : Made v w.heap.size nl := by rw [hv]; exact hmd.set _ _
        have BV : Below w.heap.size w v := hbel.trans (mv.below (Nat.le_refl _) hbel.size)
        have lv : bb < v.heap.size := World.block_lt_of_cell? _ _ b0
        have HE := hide hx
        have HNE := hide (show w.heap.size ≠ bb ∧ gb ≠ bb from ⟨by omega, fun e => (unhide HB).n1 e.symm⟩)
        have HV := hide hv
        have ZV : Hid (v.frozen? ⟨bb, 1, none⟩ = false) := z1
        obtain ⟨N, hNe⟩ : ∃ N : Nat, N = 1 + M + n := ⟨_, rfl⟩
        have HCS := hide (show (1 + (M : Int) + (n : Int)) = (N : Int) by omega)
        have hN7 : N ≤ 700 := by omega
        have HMA : Hid (amongB x N = mkP (M : Int) n x) := mkP_among (m := (M : Int)) (n := n) (unhide HCS).symm hx64 (by omega)
        clear hok hin hmd hx hv mv hB' hG hNe
        cases hk : mkP (M : Int) n x
        all_goals
          go_wp2
          rw [← unhide HV]
          go_region_held3 (fun w' => w'.cell? ⟨w.heap.size, j, none⟩ = some (.int .i64 x) ∧ w'.cell? ⟨bb, 0, none⟩ = some (.pointer (some ⟨gb, 0, none⟩)) ∧ w'.cell? ⟨gb, 0, none⟩ = some (.int .i64 (M : Int)) ∧ w'.cell? ⟨gb, 1, none⟩ = some (.slice (some ⟨g, 0, none⟩) n c)) (first | exact ⟨e0, b0, g0, g1⟩ | exact ⟨E0, C0, G0, G1⟩ | go_keep)
            (first | (go_at_call 45; refine (netMany_any _ _ _ _ _ hm0 hm1 (by omega)).mono ?_; rintro e wq ⟨rfl, bq⟩; rw [unhide HCS]; have e0 := cell_later bq (by exact e0); have b0 := cell_later bq (by exact b0); have g0 := cell_later bq (by exact g0); have g1 := cell_later bq (by exact g1); have q1 := cell_later bq (by exact q1); have f0 := cell_later bq (by exact f0); have z1 := (bq.frozen (p := ⟨bb, 1, none⟩) (by exact lv)).trans (by exact unhide ZV); have II := Ints.later (by exact II) bq; have MM := Made.later (by exact MM) bq; have BV := (by first | exact BV.trans (bq.mono BV.size) | exact BV.drew.trans (bq.mono BV.size))) | (go_at_call 70; refine (among_any _ _ _ hx64).mono ?_; rintro e wt ⟨rfl, et⟩; subst et; rw [unhide HMA, hk]) | (go_at_call 65; refine (holdsG_any bb aF _ _ (by exact q1) (by exact z1) (by exact f0)).mono ?_; rintro e wh ⟨rfl, hwh⟩; obtain ⟨E0, C0, G0, G1, HQ⟩ := takeHeld (by exact e0) (by exact b0) (by exact g0) (by exact g1) (by exact q1) hwh (unhide HNE)))
        · rcases unhide HQ with ⟨h, _⟩ | ⟨_, rfl⟩
          · cases h
          · have HQ1 := hide q1
            have HBV := hide BV
            have HNR : Hid (¬ RgtP (M : Int) n L) := fun h => by have := h.1 j (by rw [unhide HL]; exact hlt); rw [← unhide HE, hk] at this; cases this
            go_wp2
            go_ret
            exact Or.inr ⟨unhide HNR, rfl, ⟨aF, World.cell?_setCell_same _ _ _ (unhide HQ1)⟩, (OutS.of (unhide HBV)).mov (Mov.set (R := bb) _ _ _) (fun _ => Or.inl rfl)⟩
        · rcases unhide HQ with ⟨_, rfl⟩ | ⟨h, _⟩
          · have HII := hide II
            have HMM := hide MM
            have HBV := hide BV
            clear II MM BV q1 z1 f0 lv
            go_wp2
            go_roundw
            case rel => exact ⟨j + 1, by omega, by go_num, fun i hi => (by by_cases e : i = j; (· subst e; rw [← unhide HE]; exact hk); (· exact unhide HK i (by omega))), unhide HII, unhide HMM, unhide HBV⟩
            case measure => simp [intOf]; omega
          · cases h
      · have ej : j = nl := by omega
        subst ej
        have HR : Hid (RgtP (M : Int) n L) := ⟨fun i hi => unhide HK i (by rw [← unhide HL]; exact hi), by rw [unhide HL]; exact h1, by rw [unhide HL]; exact h4⟩
        have HBV := hide hbel
        have hrow := hmd.1
        clear hok hin hmd
        go_wp2
        go_ret
        exact Or.inl ⟨unhide HR, rfl, hrow, unhide HI, unhide HBV⟩
  · have HNR : Hid (¬ RgtP (M : Int) n L) := fun h => h14 (by obtain ⟨_, h2, h3⟩ := h; rw [unhide HL] at h2 h3; exact ⟨h2, h3⟩)
    have HQ := hide q1
    by_cases h1 : 1 ≤ nl
    · go_enter Tryd.func35, Tryd.ntmps35
      go_wp2_with fail
      rw [show decide ((nl : Int) ≤ 4) = false by simp; omega]
      refine (holdsG_any bb aF false _ q1 z1 f).mono ?_
      rintro e w1 ⟨rfl, ⟨h, _⟩ | ⟨_, rfl⟩⟩
      · cases h
      · go_wp2
        go_ret
        exact Or.inr ⟨unhide HNR, rfl, ⟨aF, World.cell?_setCell_same _ _ _ (unhide HQ)⟩, (OutS.refl _ _).mov (Mov.set (R := bb) _ _ _) (fun _ => Or.inl rfl)⟩
    · have h0 : nl = 0 := by omega
      subst h0
      go_enter Tryd.func35, Tryd.ntmps35
      go_wp2_with fail
      refine (holdsG_any bb aF false _ q1 z1 f).mono ?_
      rintro e w1 ⟨rfl, ⟨h, _⟩ | ⟨_, rfl⟩⟩
      · cases h
      · go_wp2
        go_ret
        exact Or.inr ⟨unhide HNR, rfl, ⟨aF, World.cell?_setCell_same _ _ _ (unhide HQ)⟩, (OutS.refl _ _).mov (Mov.set (R := bb) _ _ _) (fun _ => Or.inl rfl)⟩
end Go.Proofs.YtmpiiilkaadhfaaDoor
