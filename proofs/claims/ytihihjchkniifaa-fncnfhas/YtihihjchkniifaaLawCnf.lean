/- A formula holds if every clause does: the law FnCnfHas returns true for every code of bytes, and leaves it as it was. No condition (the law itself answers true where the code is longer than 1048576 bytes). -/
import Derived.Test.YtihihjchkniifaaCldD
import Derived.Test.YtihihjchkniifaaRowC
import Derived.Test.YtihihjchkniifaaStpA
import Derived.Test.YtihihjchkniifaaCnfD
import Derived.Deep.DeepCutAuto
namespace Go.Proofs.Ytihihjchkniifaa
open Go.ChangeShapes Go.WideShapes Go.ChangeAt Go.RowKit Go.Joins
open Go.ChangeMaps (open_string shut_string)
set_option linter.unusedVariables false
set_option linter.unusedSimpArgs false
theorem alloc_at {w : World} {o : Obj} {k : Nat} (h : k = w.heap.size) : (w.alloc o).heap[k]? = some o := by subst h; exact heap_alloc_new w o
theorem Clz.Ok.low {q : Clz} {w : World} {R : Nat} (h : q.Ok w R) : q.Ok w 0 := ⟨by have := h.1; omega, h.2⟩
theorem ClzAt.low {w : World} {R : Nat} {v : Value} {Ls : List Clz} (h : ClzAt w R v Ls) : ClzAt w 0 v Ls := by
  refine ⟨fun q hq => (h.1 q hq).low, ?_⟩
  rcases h.2 with e | ⟨b, cap, e, h1, h2, h3, h4⟩
  · exact Or.inl e
  · exact Or.inr ⟨b, cap, e, h1, by omega, h3, h4⟩
theorem chB_no {m : Int} {n : Nat} {L : Nat → Nat} {V : Nat → Nat → Int} {l : Nat} {B : Nat → Bool} (h : cnfB m n L V = false ∨ (l : Int) ≠ m) : chB m n L V l B = false := by
  unfold chB
  rcases h with h | h
  · rw [h]; rfl
  · simp [h]
theorem chB_all {m : Int} {n : Nat} {L : Nat → Nat} {V : Nat → Nat → Int} {l : Nat} {B : Nat → Bool} (h : cnfB m n L V = true) (hl : (l : Int) = m) : chB m n L V l B = allB n L V l B := by
  unfold chB; rw [h]; simp [hl]
theorem allB_step {n : Nat} {L : Nat → Nat} {V : Nat → Nat → Int} {l : Nat} {B : Nat → Bool} : allB (n + 1) L V l B = (allB n L V l B && hasB (L n) (V n) l B) := by
  have h : (AllP (n + 1) L V l B) ↔ (AllP n L V l B ∧ HasP (L n) (V n) l B) := ⟨fun h => ⟨fun i hi => h i (by omega), h n (by omega)⟩, fun h i hi => by
    by_cases e : i = n
    · subst e; exact h.2
    · exact h.1 i (by omega)⟩
  rw [Bool.eq_iff_iff, Bool.and_eq_true, allB_iff, allB_iff, hasB_iff, h]
theorem allB_zero {L : Nat → Nat} {V : Nat → Nat → Int} {l : Nat} {B : Nat → Bool} : allB 0 L V l B = true := allB_yes (fun i hi => by omega)
theorem atC_end {Ls : List Clz} {q : Clz} : atC (Ls ++ [q]) Ls.length = q := by simp [atC, List.getD]
/-- With a clause that has no number none is so. -/
theorem empty_no {m : Int} {Ls : List Clz} {q : Clz} (hq : q.L = []) {l : Nat} {B : Nat → Bool} : chB m (Ls.length + 1) (cL (Ls ++ [q])) (cV (Ls ++ [q])) l B = false := by
  have : allB (Ls.length + 1) (cL (Ls ++ [q])) (cV (Ls ++ [q])) l B = false := allB_no (fun h => by
    obtain ⟨k, hk, _⟩ := h Ls.length (by omega)
    unfold cL at hk
    rw [atC_end, hq] at hk
    simp at hk)
  unfold chB
  rw [this]; simp
theorem none_yes {m : Int} {n : Nat} {L L' : Nat → Nat} {V V' : Nat → Nat → Int} {l : Nat} {B : Nat → Bool} (h : cnfB m n L V = true) (hl : (l : Int) = m) : chB m 0 L' V' l B = true := by
  have hp := cnfB_iff.1 h
  rw [chB_all (cnfB_yes ⟨hp.1, hp.2.1, by omega, fun i hi => by omega⟩) hl]
  exact allB_zero

namespace cHas
set_option maxRecDepth 100000 in
set_option maxHeartbeats 4000000 in
theorem walk (code : Option Addr) (lencode capcode : Nat) (zcode : List Int) (w : World) (wcode : IsRow .u8 w code lencode capcode zcode) :
    Calls Try.prog 3 #[.slice code lencode capcode] w fun e w' => e = .returned (.bool true) ∧ Below w.heap.size w w' := by
  obtain ⟨hby, hlc, hcm⟩ := wcode.byts
  by_cases hl0 : lencode ≤ 1048576
  · go_enter Try.func3, Try.ntmps3
    go_wp2_with fail
    refine (drawCnfHas_any _ _ _ _ hl0 hlc hcm hby).mono ?_
    rintro e w1 ⟨m, v, Ls, R, b, l, cb, B, rfl, hm, hLs, C, Bv, hl20, BL⟩
    clear wcode hby
    obtain ⟨a, cp, rfl, _⟩ := C.slice
    have Fit := hide (C.fits (by omega))
    obtain ⟨wb, hwb⟩ : ∃ x, x = w1.alloc (.cells #[.int .i64 m, .slice a Ls.length cp] 25) := ⟨_, rfl⟩
    have b1 : Below w1.heap.size w1 wb := by rw [hwb]; exact (Below.refl _ _).alloc (Nat.le_refl _) _
    have P0 : wb.cell? ⟨w1.heap.size, 0, none⟩ = some (.int .i64 m) := by rw [hwb]; simp [go_sem]
    have P1 : wb.cell? ⟨w1.heap.size, 1, none⟩ = some (.slice a Ls.length cp) := by rw [hwb]; simp [go_sem]
    have lB : w1.heap.size < wb.heap.size := by rw [hwb]; simp
    have HC := hide (C.later b1)
    have HBv := hide (Bv.later b1)
    have BLb := BL.trans (b1.mono BL.size)
    have HWB := hide hwb
    have bw : Below wb.heap.size wb wb := Below.refl _ _
    clear C Bv hwb b1
    obtain ⟨ok, hok⟩ : ∃ x, x = chB m Ls.length (cL Ls) (cV Ls) l B := ⟨_, rfl⟩
    obtain ⟨cv, hcv⟩ : ∃ x, x = cnfB m Ls.length (cL Ls) (cV Ls) := ⟨_, rfl⟩
    have HOK := hide hok
    have HCV := hide hcv
    have kok : (ok != ok) = false := by simp
    have kcv : (cv != cv) = false := by simp
    clear hok hcv
    have HP0 := hide P0
    have HP1 := hide P1
    have p0 := P0
    have p1 := P1
    go_wp2_with fail
    rw [← unhide HWB]
    refine (iCnfHas_any m a Ls.length cp (cA Ls) (cL Ls) (cC Ls) (cV Ls) b l cb B wb (rws_len ((unhide HC).later (by first | exact bw | exact bw.drew | exact bw.drew.drew))) (unhide Fit) ((unhide HBv).later (by first | exact bw | exact bw.drew | exact bw.drew.drew)) (by omega)).mono ?_
    rintro e w2 ⟨rfl, b2⟩
    rw [← unhide HOK]
    have bw := ((by first | exact bw | exact bw.drew | exact bw.drew.drew) : Below wb.heap.size wb _).trans (b2.mono bw.size); have p0 := (bw.cell (p := ⟨w1.heap.size, 0, none⟩) lB).trans P0; have p1 := (bw.cell (p := ⟨w1.heap.size, 1, none⟩) lB).trans P1
    clear b2 P0 P1
    have P0 := unhide HP0
    have P1 := unhide HP1
    clear P0 P1
    go_wp2
    go_region_held3 (fun w' => w'.cell? ⟨w1.heap.size, 0, none⟩ = some (.int .i64 m) ∧ w'.cell? ⟨w1.heap.size, 1, none⟩ = some (.slice a Ls.length cp)) (first | go_keep | exact ⟨p0, p1⟩)
      (first | (go_at_call 7; refine (sCnfHas_any m a Ls.length cp (cA Ls) (cL Ls) (cC Ls) (cV Ls) b l cb B _ (rws_len ((unhide HC).later (by first | exact bw | exact bw.drew | exact bw.drew.drew))) (unhide Fit) ((unhide HBv).later (by first | exact bw | exact bw.drew | exact bw.drew.drew)) (by omega)).mono ?_; rintro e wq ⟨rfl, bq⟩; rw [← unhide HOK]; have bw := ((by first | exact bw | exact bw.drew | exact bw.drew.drew) : Below wb.heap.size wb _).trans (bq.mono bw.size); have p0 := (bw.cell (p := ⟨w1.heap.size, 0, none⟩) lB).trans (unhide HP0); have p1 := (bw.cell (p := ⟨w1.heap.size, 1, none⟩) lB).trans (unhide HP1)) | (go_at_call 8; refine (iCnfOk_any m a Ls.length cp (cA Ls) (cL Ls) (cC Ls) (cV Ls) _ (rws_len ((unhide HC).later (by first | exact bw | exact bw.drew | exact bw.drew.drew))) (unhide Fit)).mono ?_; rintro e wp ⟨rfl, bp⟩; rw [← unhide HCV]; have bw := ((by first | exact bw | exact bw.drew | exact bw.drew.drew) : Below wb.heap.size wb _).trans (bp.mono bw.size); have p0 := (bw.cell (p := ⟨w1.heap.size, 0, none⟩) lB).trans (unhide HP0); have p1 := (bw.cell (p := ⟨w1.heap.size, 1, none⟩) lB).trans (unhide HP1)) | (go_at_call 9; refine (sCnfOk_any m a Ls.length cp (cA Ls) (cL Ls) (cC Ls) (cV Ls) _ (rws_len ((unhide HC).later (by first | exact bw | exact bw.drew | exact bw.drew.drew))) (unhide Fit)).mono ?_; rintro e wo ⟨rfl, bo⟩; rw [← unhide HCV]; have bw := ((by first | exact bw | exact bw.drew | exact bw.drew.drew) : Below wb.heap.size wb _).trans (bo.mono bw.size); have p0 := (bw.cell (p := ⟨w1.heap.size, 0, none⟩) lB).trans (unhide HP0); have p1 := (bw.cell (p := ⟨w1.heap.size, 1, none⟩) lB).trans (unhide HP1)))
    go_wp2_with fail
    refine (sCnfOk_any m a Ls.length cp (cA Ls) (cL Ls) (cC Ls) (cV Ls) _ (rws_len ((unhide HC).later (by first | exact bw | exact bw.drew | exact bw.drew.drew))) (unhide Fit)).mono ?_
    rintro e w3 ⟨rfl, b3⟩
    rw [← unhide HCV]
    have bw : Below wb.heap.size wb w3 := ((by first | exact bw | exact bw.drew | exact bw.drew.drew) : Below wb.heap.size wb _).trans (b3.mono bw.size)
    have p0 := (bw.cell (p := ⟨w1.heap.size, 0, none⟩) lB).trans (unhide HP0)
    have p1 := (bw.cell (p := ⟨w1.heap.size, 1, none⟩) lB).trans (unhide HP1)
    have BLw := BLb.trans (bw.mono BLb.size)
    clear b3
    cases hcv : cv
    · have hno : ok = false := by rw [unhide HOK]; exact chB_no (Or.inl (by rw [← unhide HCV]; exact hcv))
      subst hno
      go_wp2
      go_ret
      exact ⟨rfl, BLw⟩
    · by_cases hlm : (l : Int) = m
      · have klm : ((l : Int) != m) = false := by simp [hlm]
        have HCB : Hid (cnfB m Ls.length (cL Ls) (cV Ls) = true) := by show _ = _; rw [← unhide HCV]; exact hcv
        have HLM := hide hlm
        have HAL : Hid (ok = allB Ls.length (cL Ls) (cV Ls) l B) := by show _ = _; rw [unhide HOK]; exact chB_all (unhide HCB) hlm
        clear hcv hlm
        go_wp2
        clear p0 p1
        go_loopw [6, 7] (fun q i wr => ∃ j : Nat, j ≤ Ls.length ∧ i = .int .i64 j ∧ q = .bool (allB j (cL Ls) (cV Ls) l B) ∧ Below wb.heap.size wb wr) (fun _ i _ => Ls.length - (intOf i).toNat)
        case atStart => exact ⟨0, by omega, rfl, by rw [allB_zero], bw⟩
        case round =>
          clear bw BLw
          obtain ⟨j, hj, rfl, rfl, bw⟩ := hrel
          have BLw := BLb.trans (bw.mono BLb.size)
          have p0 := (bw.cell (p := ⟨w1.heap.size, 0, none⟩) lB).trans (unhide HP0)
          have p1 := (bw.cell (p := ⟨w1.heap.size, 1, none⟩) lB).trans (unhide HP1)
          by_cases hlt : j < Ls.length
          · have HN : Hid (allB (j + 1) (cL Ls) (cV Ls) l B = (allB j (cL Ls) (cV Ls) l B && hasB (cL Ls j) (cV Ls j) l B)) := allB_step
            have hq := ((unhide HC).later bw).1 _ (atC_mem hlt)
            obtain ⟨ar, rfl, hrow⟩ : ∃ ar, a = some ar ∧ ∀ i, i < Ls.length → wr.cell? ⟨ar.block, ar.off + i, none⟩ = some (.slice (some ⟨(atC Ls i).g, 0, none⟩) (atC Ls i).L.length (atC Ls i).cap) ∧ ar.spot = none := by
              rcases ((unhide HC).later bw).2 with ⟨e, e2⟩ | ⟨b', cap', e, _, _, _, h⟩
              · rw [e2] at hlt; simp at hlt
              · simp only [Value.slice.injEq] at e
                obtain ⟨rfl, _, _⟩ := e
                exact ⟨_, rfl, fun i hi => ⟨by have := h i hi; simpa [Clz.cell] using this, rfl⟩⟩
            obtain ⟨rb, ro, rs⟩ := ar
            obtain ⟨hr1, hr2⟩ := hrow j hlt
            simp only at hr1 hr2
            subst hr2
            have hint : IntsAt wr (some ⟨(atC Ls j).g, 0, none⟩) (cL Ls j) (cV Ls j) := Or.inr ⟨_, _, rfl, hq.2.1, hq.2.2.1⟩
            have hlen : cL Ls j ≤ 1048576 := ((unhide Fit).2 j hlt).1
            have hw := ((unhide Fit).2 j hlt).2
            have HQ := hide (iClauseHas_any (some ⟨(atC Ls j).g, 0, none⟩) (cL Ls j) (atC Ls j).cap (cV Ls j) b l cb B wr hint hlen hw ((unhide HBv).later bw) (by omega))
            change wr.cell? _ = some (.slice (some ⟨(atC Ls j).g, 0, none⟩) (cL Ls j) (atC Ls j).cap) at hr1
            clear hint hlen hw hq hrow
            generalize (atC Ls j).g = qg at *
            generalize (atC Ls j).cap = qc at *
            generalize cV Ls j = qv at *
            generalize hql : cL Ls j = ql at *
            clear hql
            cases hal : allB j (cL Ls) (cV Ls) l B
            · go_wp2
              go_roundw
              case rel => exact ⟨j + 1, by omega, by go_num, by rw [unhide HN, hal]; rfl, bw⟩
              case measure => simp [intOf] <;> omega
            · go_wp2_with fail
              refine (unhide HQ).mono ?_
              rintro e wz ⟨rfl, rfl⟩
              go_wp2
              go_roundw
              case rel => exact ⟨j + 1, by omega, by go_num, by rw [unhide HN, hal]; rfl, bw⟩
              case measure => simp [intOf] <;> omega
          · have ej : j = Ls.length := by omega
            subst ej
            rw [← unhide HAL]
            have kk : (ok == ok) = true := by simp
            go_wp2
            go_cut [8] (fun s8 wx => ∃ (D g2 c2 e1 : Nat), s8 = .pointer (some ⟨D, 0, none⟩) ∧ wx.cell? ⟨D, 0, none⟩ = some (.int .i64 m) ∧ wx.cell? ⟨D, 1, none⟩ = some (.slice (some ⟨g2, 0, none⟩) (Ls.length + 1) c2) ∧ ClzAt wx 0 (.slice (some ⟨g2, 0, none⟩) (Ls.length + 1) c2) (Ls ++ [⟨e1, 0, []⟩]) ∧ Below wr.heap.size wr wx)
            case first =>
              clear Fit HBv BLb HWB HOK HCV kok kcv HP0 HP1 klm HCB HLM HAL kk BLw hj hlt BL hm hl20
              refine wp_region_held_drew (S := fun w' => w'.cell? ⟨w1.heap.size, 0, none⟩ = some (.int .i64 m) ∧ w'.cell? ⟨w1.heap.size, 1, none⟩ = some (.slice a Ls.length cp)) (by kernel_rfl) ?_ (fun hHeld => ?_)
              · exact ⟨p0, p1⟩
              have HC0 := hide ((unhide HC).later bw).low
              have wlr : w1.heap.size < wr.heap.size := Nat.lt_of_lt_of_le lB bw.size
              have wpos : 0 < wr.heap.size := by omega
              obtain ⟨wd, hwd⟩ : ∃ x, x = wr.drew := ⟨_, rfl⟩
              have hbw : Hid (Below wr.heap.size wr wd) := by show _; rw [hwd]; exact (Below.refl _ _).drew
              have p0 : wd.cell? ⟨w1.heap.size, 0, none⟩ = some (.int .i64 m) := by rw [hwd]; exact p0
              have p1 : wd.cell? ⟨w1.heap.size, 1, none⟩ = some (.slice a Ls.length cp) := by rw [hwd]; exact p1
              rw [← hwd]
              (try rw [← hwd] at hHeld)
              clear hwd
              refine wpAnyH_take (i := 0) (v := ?_) rfl (by kernel_rfl) (by kernel_rfl) (by kernel_rfl) (fun _ _ _ h => h) (Or.inl ⟨by rfl, ?_⟩) (by assumption) ?_
              rotate_left
              · (intro w hSw; (try dsimp only at hSw); first | (go_simp; done) | (go_simp; with_reducible rfl))
              try simp only [List.getElem_toArray, List.getElem_cons_succ, List.getElem_cons_zero, Act.put, List.setIfInBounds_toArray, List.set_cons_zero, List.set_cons_succ]
              refine wpAnyH_take (i := 1) (v := ?_) rfl (by kernel_rfl) (by kernel_rfl) (by kernel_rfl) (fun _ _ _ h => h) (Or.inl ⟨by rfl, ?_⟩) (by assumption) ?_
              rotate_left
              · (intro w hSw; (try dsimp only at hSw); first | (go_simp; done) | (go_simp; with_reducible rfl))
              try simp only [List.getElem_toArray, List.getElem_cons_succ, List.getElem_cons_zero, Act.put, List.setIfInBounds_toArray, List.set_cons_zero, List.set_cons_succ]
              refine wpAnyH_take (i := 3) (v := ?_) rfl (by kernel_rfl) (by kernel_rfl) (by kernel_rfl) (fun _ _ _ h => h) (Or.inl ⟨by rfl, ?_⟩) (by assumption) ?_
              rotate_left
              · (intro w hSw; (try dsimp only at hSw); first | (go_simp; done) | (go_simp; with_reducible rfl))
              try simp only [List.getElem_toArray, List.getElem_cons_succ, List.getElem_cons_zero, Act.put, List.setIfInBounds_toArray, List.set_cons_zero, List.set_cons_succ]
              refine wpAnyH_take (i := 4) (v := ?_) rfl (by kernel_rfl) (by kernel_rfl) (by kernel_rfl) (fun _ _ _ h => h) (Or.inl ⟨by rfl, ?_⟩) (by assumption) ?_
              rotate_left
              · (intro w hSw; (try dsimp only at hSw); first | (go_simp; done) | (go_simp; with_reducible rfl))
              try simp only [List.getElem_toArray, List.getElem_cons_succ, List.getElem_cons_zero, Act.put, List.setIfInBounds_toArray, List.set_cons_zero, List.set_cons_succ]
              refine wpAnyH_ready (rs := [2, 6, 10]) (by kernel_rfl) (by simp) ?_
              refine AllReadyH.cons rfl (fun K hK => ?_) (AllReadyH.cons rfl (fun K hK => ?_) (AllReadyH.cons rfl (fun K hK => ?_) AllReadyH.nil))
              · go_simp
                obtain ⟨v2, hv2⟩ : ∃ x, x = wd.alloc (.cells #[] 32) := ⟨_, rfl⟩
                have b2 : Below wd.heap.size wd v2 := by rw [hv2]; exact (Below.refl _ _).alloc (Nat.le_refl _) _
                have e2 : wd.heap.size < v2.heap.size := by rw [hv2]; simp
                have f2 : wr.heap.size ≤ wd.heap.size := (unhide hbw).size
                have hbw := hide ((unhide hbw).trans (b2.mono (unhide hbw).size))
                have p0 := cell_later b2 p0
                have p1 := cell_later b2 p1
                have hX : Hid (v2.heap[wd.heap.size]? = some (.cells #[] 32 (0, 0))) := by show _ = _; rw [hv2]; exact alloc_at rfl
                rw [← hv2]
                obtain ⟨X, hXe⟩ : ∃ z, z = wd.heap.size := ⟨_, rfl⟩
                rw [← hXe] at hX  ⊢
                have zX : X < v2.heap.size := by omega
                have yX : wr.heap.size ≤ X := by omega
                clear hv2 b2 e2 f2 hXe
                refine hK.out _ _ ?_ (fun hHeld => ?_)
                · exact ⟨p0, p1⟩
                clear hK K
                try simp only [List.getElem_toArray, List.getElem_cons_succ, List.getElem_cons_zero, Act.put, List.setIfInBounds_toArray, List.set_cons_zero, List.set_cons_succ]
                refine wpAnyH_ready (rs := [5, 6, 10]) (by kernel_rfl) (by simp) ?_
                refine AllReadyH.cons rfl (fun K hK => ?_) (AllReadyH.cons rfl (fun K hK => ?_) (AllReadyH.cons rfl (fun K hK => ?_) AllReadyH.nil))
                · apply step_clz_copy (R := 0) (Ls := Ls) (base := wr.heap.size)
                  case hgd => rfl
                  case ho => rfl
                  case hty => rfl
                  case hs => rfl
                  case hX => exact unhide hX
                  case hbX => exact yX
                  case hbase => exact (unhide hbw).size
                  case hx => rfl
                  case hc => exact (unhide HC0).later (unhide hbw)
                  case hl => omega
                  case' h => intro g5 c5 v5 o5 gr5 at5 lt5
                  have mv5 : Mov X _ v5 := mov_of_grown gr5
                  have p0 := mv5.cell p0 (by simp only; omega)
                  have p1 := mv5.cell p1 (by simp only; omega)
                  have hbw := hide ((unhide hbw).trans (mv5.below yX (unhide hbw).size))
                  have hO := hide o5
                  have zO := lt5
                  have yg5 : wr.heap.size ≤ g5 := own_base o5
                  clear o5 gr5 at5 lt5 mv5 hX zX yX
                  refine hK.out _ _ ?_ (fun hHeld => ?_)
                  · exact ⟨p0, p1⟩
                  clear hK K
                  try simp only [List.getElem_toArray, List.getElem_cons_succ, List.getElem_cons_zero, Act.put, List.setIfInBounds_toArray, List.set_cons_zero, List.set_cons_succ]
                  refine wpAnyH_ready (rs := [6, 10]) (by kernel_rfl) (by simp) ?_
                  refine AllReadyH.cons rfl (fun K hK => ?_) (AllReadyH.cons rfl (fun K hK => ?_) AllReadyH.nil)
                  · go_simp
                    obtain ⟨v6, hv6⟩ : ∃ x, x = v5.alloc (.cells #[] 3) := ⟨_, rfl⟩
                    have b6 : Below v5.heap.size v5 v6 := by rw [hv6]; exact (Below.refl _ _).alloc (Nat.le_refl _) _
                    have e6 : v5.heap.size < v6.heap.size := by rw [hv6]; simp
                    have f6 : wr.heap.size ≤ v5.heap.size := (unhide hbw).size
                    have hO := hide (World.ownsRow.kept (w' := v6) (unhide hO) (grown_below b6) (by simp [Value.ownBlock]))
                    have zO : g5 < v6.heap.size := Nat.lt_of_lt_of_le zO b6.size
                    have hbw := hide ((unhide hbw).trans (b6.mono (unhide hbw).size))
                    have p0 := cell_later b6 p0
                    have p1 := cell_later b6 p1
                    have ng5E : g5 ≠ v5.heap.size := by omega
                    rw [← hv6]
                    obtain ⟨E, hEe⟩ : ∃ z, z = v5.heap.size := ⟨_, rfl⟩
                    rw [← hEe] at  ng5E ⊢
                    have zE : E < v6.heap.size := by omega
                    have yE : wr.heap.size ≤ E := by omega
                    clear hv6 b6 e6 f6 hEe
                    refine hK.out _ _ ?_ (fun hHeld => ?_)
                    · exact ⟨p0, p1⟩
                    clear hK K
                    try simp only [List.getElem_toArray, List.getElem_cons_succ, List.getElem_cons_zero, Act.put, List.setIfInBounds_toArray, List.set_cons_zero, List.set_cons_succ]
                    refine wpAnyH_ready (rs := [7, 10]) (by kernel_rfl) (by simp) ?_
                    refine AllReadyH.cons rfl (fun K hK => ?_) (AllReadyH.cons rfl (fun K hK => ?_) AllReadyH.nil)
                    · go_simp
                      obtain ⟨v7, hv7⟩ : ∃ x, x = v6.alloc (.cells #[.slice (some ⟨E, 0, none⟩) 0 0] 32) := ⟨_, rfl⟩
                      have b7 : Below v6.heap.size v6 v7 := by rw [hv7]; exact (Below.refl _ _).alloc (Nat.le_refl _) _
                      have e7 : v6.heap.size < v7.heap.size := by rw [hv7]; simp
                      have f7 : wr.heap.size ≤ v6.heap.size := (unhide hbw).size
                      have hO := hide (World.ownsRow.kept (w' := v7) (unhide hO) (grown_below b7) (by simp [Value.ownBlock]))
                      have zO : g5 < v7.heap.size := Nat.lt_of_lt_of_le zO b7.size
                      have zE : E < v7.heap.size := Nat.lt_of_lt_of_le zE b7.size
                      have hbw := hide ((unhide hbw).trans (b7.mono (unhide hbw).size))
                      have p0 := cell_later b7 p0
                      have p1 := cell_later b7 p1
                      have hT : v7.cell? ⟨v6.heap.size, 0, none⟩ = some (.slice (some ⟨E, 0, none⟩) 0 0) := by rw [hv7]; simp [go_sem]
                      have ng5T : g5 ≠ v6.heap.size := by omega
                      have nET : E ≠ v6.heap.size := by omega
                      rw [← hv7]
                      obtain ⟨T, hTe⟩ : ∃ z, z = v6.heap.size := ⟨_, rfl⟩
                      rw [← hTe] at hT ng5T nET ⊢
                      have zT : T < v7.heap.size := by omega
                      have yT : wr.heap.size ≤ T := by omega
                      clear hv7 b7 e7 f7 hTe
                      refine hK.out _ _ ?_ (fun hHeld => ?_)
                      · exact ⟨p0, p1⟩
                      clear hK K
                      try simp only [List.getElem_toArray, List.getElem_cons_succ, List.getElem_cons_zero, Act.put, List.setIfInBounds_toArray, List.set_cons_zero, List.set_cons_succ]
                      refine wpAnyH_ready (rs := [8, 10]) (by kernel_rfl) (by simp) ?_
                      refine AllReadyH.cons rfl (fun K hK => ?_) (AllReadyH.cons rfl (fun K hK => ?_) AllReadyH.nil)
                      · apply step_clz_one (Ls := Ls) (q := ⟨E, 0, []⟩) (base := wr.heap.size)
                        case hgd => rfl
                        case ho => rfl
                        case hty => rfl
                        case hs => rfl
                        case hown => exact unhide hO
                        case hbase => exact (unhide hbw).size
                        case hx => rfl
                        case hT => exact hT
                        case hl => omega
                        case' h => intro g8 c8 v8 o8 gr8 at8 lt8
                        have mv8 : Mov g5 _ v8 := mov_of_grown gr8
                        have zE : E < v8.heap.size := Nat.lt_of_lt_of_le zE mv8.size
                        have p0 := mv8.cell p0 (by simp only; omega)
                        have p1 := mv8.cell p1 (by simp only; omega)
                        have hbw := hide ((unhide hbw).trans (mv8.below yg5 (unhide hbw).size))
                        have hF := hide o8
                        have zF := lt8
                        clear o8 gr8 at8 lt8 mv8 hO zO hT zT
                        refine hK.out _ _ ?_ (fun hHeld => ?_)
                        · exact ⟨p0, p1⟩
                        clear hK K
                        try simp only [List.getElem_toArray, List.getElem_cons_succ, List.getElem_cons_zero, Act.put, List.setIfInBounds_toArray, List.set_cons_zero, List.set_cons_succ]
                        refine wpAnyH_take (i := 9) (v := ?_) rfl (by kernel_rfl) (by kernel_rfl) (by kernel_rfl) (fun _ _ _ h => h) (Or.inl ⟨by rfl, ?_⟩) (by assumption) ?_
                        rotate_left
                        · (intro w hSw; (try dsimp only at hSw); first | (go_simp; done) | (go_simp; with_reducible rfl))
                        try simp only [List.getElem_toArray, List.getElem_cons_succ, List.getElem_cons_zero, Act.put, List.setIfInBounds_toArray, List.set_cons_zero, List.set_cons_succ]
                        refine wpAnyH_ready (rs := [10]) (by kernel_rfl) (by simp) ?_
                        refine AllReadyH.cons rfl (fun K hK => ?_) AllReadyH.nil
                        go_simp
                        obtain ⟨v10, hv10⟩ : ∃ x, x = v8.alloc (.cells #[.int .i64 0, .slice none 0 0] 25) := ⟨_, rfl⟩
                        have b10 : Below v8.heap.size v8 v10 := by rw [hv10]; exact (Below.refl _ _).alloc (Nat.le_refl _) _
                        have e10 : v8.heap.size < v10.heap.size := by rw [hv10]; simp
                        have f10 : wr.heap.size ≤ v8.heap.size := (unhide hbw).size
                        have hF := hide (World.ownsRow.kept (w' := v10) (unhide hF) (grown_below b10) (by simp [Value.ownBlock]))
                        have zF : g8 < v10.heap.size := Nat.lt_of_lt_of_le zF b10.size
                        have zE : E < v10.heap.size := Nat.lt_of_lt_of_le zE b10.size
                        have hbw := hide ((unhide hbw).trans (b10.mono (unhide hbw).size))
                        have p0 := cell_later b10 p0
                        have p1 := cell_later b10 p1
                        have hD0 : v10.cell? ⟨v8.heap.size, 0, none⟩ = some (.int .i64 0) := by rw [hv10]; simp [go_sem]
                        have hD1 : v10.cell? ⟨v8.heap.size, 1, none⟩ = some (.slice none 0 0) := by rw [hv10]; simp [go_sem]
                        have hDf0 : v10.frozen? ⟨v8.heap.size, 0, none⟩ = false := by rw [hv10]; simp [go_sem]
                        have hDf1 : v10.frozen? ⟨v8.heap.size, 1, none⟩ = false := by rw [hv10]; simp [go_sem]
                        have ng8D : g8 ≠ v8.heap.size := by omega
                        have nED : E ≠ v8.heap.size := by omega
                        rw [← hv10]
                        obtain ⟨D, hDe⟩ : ∃ z, z = v8.heap.size := ⟨_, rfl⟩
                        rw [← hDe] at hD0 hD1 hDf0 hDf1 ng8D nED ⊢
                        have zD : D < v10.heap.size := by omega
                        have yD : wr.heap.size ≤ D := by omega
                        clear hv10 b10 e10 f10 hDe
                        refine hK.out _ _ ?_ (fun hHeld => ?_)
                        · exact ⟨p0, p1⟩
                        clear hK K
                        try simp only [List.getElem_toArray, List.getElem_cons_succ, List.getElem_cons_zero, Act.put, List.setIfInBounds_toArray, List.set_cons_zero, List.set_cons_succ]
                        refine wpAnyH_ready (rs := [11]) (by kernel_rfl) (by simp) ?_
                        refine AllReadyH.cons rfl (fun K hK => ?_) AllReadyH.nil
                        go_simp
                        refine hK.out _ _ ?_ (fun hHeld => ?_)
                        · exact ⟨by rw [World.cell?_setCell_other _ _ _ _ (by simp <;> omega), World.cell?_setCell_other _ _ _ _ (by simp <;> omega)]; exact p0, by rw [World.cell?_setCell_other _ _ _ _ (by simp <;> omega), World.cell?_setCell_other _ _ _ _ (by simp <;> omega)]; exact p1⟩
                        clear hK K
                        try simp only [List.getElem_toArray, List.getElem_cons_succ, List.getElem_cons_zero, Act.put, List.setIfInBounds_toArray, List.set_cons_zero, List.set_cons_succ]
                        refine wpAnyH_done (by kernel_rfl) ?_ _
                        have CF : ClzAt v10 0 (.slice (some ⟨g8, 0, none⟩) (Ls.length + 1) c8) (Ls ++ [⟨E, 0, []⟩]) := own_clz (unhide hF) (by have := own_base (unhide hF); omega) (fun q hq => by
                          rcases List.mem_append.1 hq with h | h
                          · exact ((unhide HC0).1 q h).later (unhide hbw)
                          · simp at h; subst h; exact ⟨by simp only; omega, zE, fun i hi => by simp at hi, by simp, fun x hx => by cases hx⟩)
                        have CG : ∀ q, q ∈ Ls ++ [⟨E, 0, []⟩] → q.g ≠ D := fun q hq => by
                          rcases List.mem_append.1 hq with h | h
                          · have := ((unhide HC0).1 q h).2.1; omega
                          · simp at h; subst h; simp only; omega
                        go_wp2_with fail
                        go_meet
                        exact ⟨D, g8, c8, E, rfl, by rw [World.cell?_setCell_other _ _ _ _ (by simp)]; exact World.cell?_setCell_same _ _ _ hD0, World.cell?_setCell_same _ _ _ (by rw [World.cell?_setCell_other _ _ _ _ (by simp)]; exact hD1), (CF.set CG (by simp [Value.ownBlock]; omega)).set CG (by simp [Value.ownBlock]; omega), (((unhide hbw).setCell yD _).setCell yD _)⟩
                      · go_simp
                        obtain ⟨v10, hv10⟩ : ∃ x, x = v7.alloc (.cells #[.int .i64 0, .slice none 0 0] 25) := ⟨_, rfl⟩
                        have b10 : Below v7.heap.size v7 v10 := by rw [hv10]; exact (Below.refl _ _).alloc (Nat.le_refl _) _
                        have e10 : v7.heap.size < v10.heap.size := by rw [hv10]; simp
                        have f10 : wr.heap.size ≤ v7.heap.size := (unhide hbw).size
                        have hO := hide (World.ownsRow.kept (w' := v10) (unhide hO) (grown_below b10) (by simp [Value.ownBlock]))
                        have hT := cell_later b10 hT
                        have zO : g5 < v10.heap.size := Nat.lt_of_lt_of_le zO b10.size
                        have zT : T < v10.heap.size := Nat.lt_of_lt_of_le zT b10.size
                        have zE : E < v10.heap.size := Nat.lt_of_lt_of_le zE b10.size
                        have hbw := hide ((unhide hbw).trans (b10.mono (unhide hbw).size))
                        have p0 := cell_later b10 p0
                        have p1 := cell_later b10 p1
                        have hD0 : v10.cell? ⟨v7.heap.size, 0, none⟩ = some (.int .i64 0) := by rw [hv10]; simp [go_sem]
                        have hD1 : v10.cell? ⟨v7.heap.size, 1, none⟩ = some (.slice none 0 0) := by rw [hv10]; simp [go_sem]
                        have hDf0 : v10.frozen? ⟨v7.heap.size, 0, none⟩ = false := by rw [hv10]; simp [go_sem]
                        have hDf1 : v10.frozen? ⟨v7.heap.size, 1, none⟩ = false := by rw [hv10]; simp [go_sem]
                        have ng5D : g5 ≠ v7.heap.size := by omega
                        have nTD : T ≠ v7.heap.size := by omega
                        have nED : E ≠ v7.heap.size := by omega
                        rw [← hv10]
                        obtain ⟨D, hDe⟩ : ∃ z, z = v7.heap.size := ⟨_, rfl⟩
                        rw [← hDe] at hD0 hD1 hDf0 hDf1 ng5D nTD nED ⊢
                        have zD : D < v10.heap.size := by omega
                        have yD : wr.heap.size ≤ D := by omega
                        clear hv10 b10 e10 f10 hDe
                        refine hK.out _ _ ?_ (fun hHeld => ?_)
                        · exact ⟨p0, p1⟩
                        clear hK K
                        try simp only [List.getElem_toArray, List.getElem_cons_succ, List.getElem_cons_zero, Act.put, List.setIfInBounds_toArray, List.set_cons_zero, List.set_cons_succ]
                        refine wpAnyH_ready (rs := [8]) (by kernel_rfl) (by simp) ?_
                        refine AllReadyH.cons rfl (fun K hK => ?_) AllReadyH.nil
                        apply step_clz_one (Ls := Ls) (q := ⟨E, 0, []⟩) (base := wr.heap.size)
                        case hgd => rfl
                        case ho => rfl
                        case hty => rfl
                        case hs => rfl
                        case hown => exact unhide hO
                        case hbase => exact (unhide hbw).size
                        case hx => rfl
                        case hT => exact hT
                        case hl => omega
                        case' h => intro g8 c8 v8 o8 gr8 at8 lt8
                        have mv8 : Mov g5 _ v8 := mov_of_grown gr8
                        have zE : E < v8.heap.size := Nat.lt_of_lt_of_le zE mv8.size
                        have hD0 := mv8.cell hD0 (by simp only; omega)
                        have hD1 := mv8.cell hD1 (by simp only; omega)
                        have hDf0 := (World.frozen?_of_block (w := v10) (a := ⟨D, 0, none⟩) (mv8.2.2.2.2 D zD (by omega))).trans hDf0
                        have hDf1 := (World.frozen?_of_block (w := v10) (a := ⟨D, 1, none⟩) (mv8.2.2.2.2 D zD (by omega))).trans hDf1
                        have zD : D < v8.heap.size := Nat.lt_of_lt_of_le zD mv8.size
                        have p0 := mv8.cell p0 (by simp only; omega)
                        have p1 := mv8.cell p1 (by simp only; omega)
                        have hbw := hide ((unhide hbw).trans (mv8.below yg5 (unhide hbw).size))
                        have hF := hide o8
                        have zF := lt8
                        have ng8D : g8 ≠ D := by rcases at8 with e | e <;> omega
                        clear o8 gr8 at8 lt8 mv8 hO zO hT zT
                        refine hK.out _ _ ?_ (fun hHeld => ?_)
                        · exact ⟨p0, p1⟩
                        clear hK K
                        try simp only [List.getElem_toArray, List.getElem_cons_succ, List.getElem_cons_zero, Act.put, List.setIfInBounds_toArray, List.set_cons_zero, List.set_cons_succ]
                        refine wpAnyH_take (i := 9) (v := ?_) rfl (by kernel_rfl) (by kernel_rfl) (by kernel_rfl) (fun _ _ _ h => h) (Or.inl ⟨by rfl, ?_⟩) (by assumption) ?_
                        rotate_left
                        · (intro w hSw; (try dsimp only at hSw); first | (go_simp; done) | (go_simp; with_reducible rfl))
                        try simp only [List.getElem_toArray, List.getElem_cons_succ, List.getElem_cons_zero, Act.put, List.setIfInBounds_toArray, List.set_cons_zero, List.set_cons_succ]
                        refine wpAnyH_ready (rs := [11]) (by kernel_rfl) (by simp) ?_
                        refine AllReadyH.cons rfl (fun K hK => ?_) AllReadyH.nil
                        go_simp
                        refine hK.out _ _ ?_ (fun hHeld => ?_)
                        · exact ⟨by rw [World.cell?_setCell_other _ _ _ _ (by simp <;> omega), World.cell?_setCell_other _ _ _ _ (by simp <;> omega)]; exact p0, by rw [World.cell?_setCell_other _ _ _ _ (by simp <;> omega), World.cell?_setCell_other _ _ _ _ (by simp <;> omega)]; exact p1⟩
                        clear hK K
                        try simp only [List.getElem_toArray, List.getElem_cons_succ, List.getElem_cons_zero, Act.put, List.setIfInBounds_toArray, List.set_cons_zero, List.set_cons_succ]
                        refine wpAnyH_done (by kernel_rfl) ?_ _
                        have CF : ClzAt v8 0 (.slice (some ⟨g8, 0, none⟩) (Ls.length + 1) c8) (Ls ++ [⟨E, 0, []⟩]) := own_clz (unhide hF) (by have := own_base (unhide hF); omega) (fun q hq => by
                          rcases List.mem_append.1 hq with h | h
                          · exact ((unhide HC0).1 q h).later (unhide hbw)
                          · simp at h; subst h; exact ⟨by simp only; omega, zE, fun i hi => by simp at hi, by simp, fun x hx => by cases hx⟩)
                        have CG : ∀ q, q ∈ Ls ++ [⟨E, 0, []⟩] → q.g ≠ D := fun q hq => by
                          rcases List.mem_append.1 hq with h | h
                          · have := ((unhide HC0).1 q h).2.1; omega
                          · simp at h; subst h; simp only; omega
                        go_wp2_with fail
                        go_meet
                        exact ⟨D, g8, c8, E, rfl, by rw [World.cell?_setCell_other _ _ _ _ (by simp)]; exact World.cell?_setCell_same _ _ _ hD0, World.cell?_setCell_same _ _ _ (by rw [World.cell?_setCell_other _ _ _ _ (by simp)]; exact hD1), (CF.set CG (by simp [Value.ownBlock]; omega)).set CG (by simp [Value.ownBlock]; omega), (((unhide hbw).setCell yD _).setCell yD _)⟩
                    · go_simp
                      obtain ⟨v10, hv10⟩ : ∃ x, x = v6.alloc (.cells #[.int .i64 0, .slice none 0 0] 25) := ⟨_, rfl⟩
                      have b10 : Below v6.heap.size v6 v10 := by rw [hv10]; exact (Below.refl _ _).alloc (Nat.le_refl _) _
                      have e10 : v6.heap.size < v10.heap.size := by rw [hv10]; simp
                      have f10 : wr.heap.size ≤ v6.heap.size := (unhide hbw).size
                      have hO := hide (World.ownsRow.kept (w' := v10) (unhide hO) (grown_below b10) (by simp [Value.ownBlock]))
                      have zO : g5 < v10.heap.size := Nat.lt_of_lt_of_le zO b10.size
                      have zE : E < v10.heap.size := Nat.lt_of_lt_of_le zE b10.size
                      have hbw := hide ((unhide hbw).trans (b10.mono (unhide hbw).size))
                      have p0 := cell_later b10 p0
                      have p1 := cell_later b10 p1
                      have hD0 : v10.cell? ⟨v6.heap.size, 0, none⟩ = some (.int .i64 0) := by rw [hv10]; simp [go_sem]
                      have hD1 : v10.cell? ⟨v6.heap.size, 1, none⟩ = some (.slice none 0 0) := by rw [hv10]; simp [go_sem]
                      have hDf0 : v10.frozen? ⟨v6.heap.size, 0, none⟩ = false := by rw [hv10]; simp [go_sem]
                      have hDf1 : v10.frozen? ⟨v6.heap.size, 1, none⟩ = false := by rw [hv10]; simp [go_sem]
                      have ng5D : g5 ≠ v6.heap.size := by omega
                      have nED : E ≠ v6.heap.size := by omega
                      rw [← hv10]
                      obtain ⟨D, hDe⟩ : ∃ z, z = v6.heap.size := ⟨_, rfl⟩
                      rw [← hDe] at hD0 hD1 hDf0 hDf1 ng5D nED ⊢
                      have zD : D < v10.heap.size := by omega
                      have yD : wr.heap.size ≤ D := by omega
                      clear hv10 b10 e10 f10 hDe
                      refine hK.out _ _ ?_ (fun hHeld => ?_)
                      · exact ⟨p0, p1⟩
                      clear hK K
                      try simp only [List.getElem_toArray, List.getElem_cons_succ, List.getElem_cons_zero, Act.put, List.setIfInBounds_toArray, List.set_cons_zero, List.set_cons_succ]
                      refine wpAnyH_ready (rs := [7]) (by kernel_rfl) (by simp) ?_
                      refine AllReadyH.cons rfl (fun K hK => ?_) AllReadyH.nil
                      go_simp
                      obtain ⟨v7, hv7⟩ : ∃ x, x = v10.alloc (.cells #[.slice (some ⟨E, 0, none⟩) 0 0] 32) := ⟨_, rfl⟩
                      have b7 : Below v10.heap.size v10 v7 := by rw [hv7]; exact (Below.refl _ _).alloc (Nat.le_refl _) _
                      have e7 : v10.heap.size < v7.heap.size := by rw [hv7]; simp
                      have f7 : wr.heap.size ≤ v10.heap.size := (unhide hbw).size
                      have hO := hide (World.ownsRow.kept (w' := v7) (unhide hO) (grown_below b7) (by simp [Value.ownBlock]))
                      have hD0 := cell_later b7 hD0
                      have hD1 := cell_later b7 hD1
                      have hDf0 := (b7.frozen (p := ⟨D, 0, none⟩) zD).trans hDf0
                      have hDf1 := (b7.frozen (p := ⟨D, 1, none⟩) zD).trans hDf1
                      have zO : g5 < v7.heap.size := Nat.lt_of_lt_of_le zO b7.size
                      have zE : E < v7.heap.size := Nat.lt_of_lt_of_le zE b7.size
                      have zD : D < v7.heap.size := Nat.lt_of_lt_of_le zD b7.size
                      have hbw := hide ((unhide hbw).trans (b7.mono (unhide hbw).size))
                      have p0 := cell_later b7 p0
                      have p1 := cell_later b7 p1
                      have hT : v7.cell? ⟨v10.heap.size, 0, none⟩ = some (.slice (some ⟨E, 0, none⟩) 0 0) := by rw [hv7]; simp [go_sem]
                      have ng5T : g5 ≠ v10.heap.size := by omega
                      have nET : E ≠ v10.heap.size := by omega
                      have nDT : D ≠ v10.heap.size := by omega
                      rw [← hv7]
                      obtain ⟨T, hTe⟩ : ∃ z, z = v10.heap.size := ⟨_, rfl⟩
                      rw [← hTe] at hT ng5T nET nDT ⊢
                      have zT : T < v7.heap.size := by omega
                      have yT : wr.heap.size ≤ T := by omega
                      clear hv7 b7 e7 f7 hTe
                      refine hK.out _ _ ?_ (fun hHeld => ?_)
                      · exact ⟨p0, p1⟩
                      clear hK K
                      try simp only [List.getElem_toArray, List.getElem_cons_succ, List.getElem_cons_zero, Act.put, List.setIfInBounds_toArray, List.set_cons_zero, List.set_cons_succ]
                      refine wpAnyH_ready (rs := [8]) (by kernel_rfl) (by simp) ?_
                      refine AllReadyH.cons rfl (fun K hK => ?_) AllReadyH.nil
                      apply step_clz_one (Ls := Ls) (q := ⟨E, 0, []⟩) (base := wr.heap.size)
                      case hgd => rfl
                      case ho => rfl
                      case hty => rfl
                      case hs => rfl
                      case hown => exact unhide hO
                      case hbase => exact (unhide hbw).size
                      case hx => rfl
                      case hT => exact hT
                      case hl => omega
                      case' h => intro g8 c8 v8 o8 gr8 at8 lt8
                      have mv8 : Mov g5 _ v8 := mov_of_grown gr8
                      have zE : E < v8.heap.size := Nat.lt_of_lt_of_le zE mv8.size
                      have hD0 := mv8.cell hD0 (by simp only; omega)
                      have hD1 := mv8.cell hD1 (by simp only; omega)
                      have hDf0 := (World.frozen?_of_block (w := v7) (a := ⟨D, 0, none⟩) (mv8.2.2.2.2 D zD (by omega))).trans hDf0
                      have hDf1 := (World.frozen?_of_block (w := v7) (a := ⟨D, 1, none⟩) (mv8.2.2.2.2 D zD (by omega))).trans hDf1
                      have zD : D < v8.heap.size := Nat.lt_of_lt_of_le zD mv8.size
                      have p0 := mv8.cell p0 (by simp only; omega)
                      have p1 := mv8.cell p1 (by simp only; omega)
                      have hbw := hide ((unhide hbw).trans (mv8.below yg5 (unhide hbw).size))
                      have hF := hide o8
                      have zF := lt8
                      have ng8D : g8 ≠ D := by rcases at8 with e | e <;> omega
                      clear o8 gr8 at8 lt8 mv8 hO zO hT zT
                      refine hK.out _ _ ?_ (fun hHeld => ?_)
                      · exact ⟨p0, p1⟩
                      clear hK K
                      try simp only [List.getElem_toArray, List.getElem_cons_succ, List.getElem_cons_zero, Act.put, List.setIfInBounds_toArray, List.set_cons_zero, List.set_cons_succ]
                      refine wpAnyH_take (i := 9) (v := ?_) rfl (by kernel_rfl) (by kernel_rfl) (by kernel_rfl) (fun _ _ _ h => h) (Or.inl ⟨by rfl, ?_⟩) (by assumption) ?_
                      rotate_left
                      · (intro w hSw; (try dsimp only at hSw); first | (go_simp; done) | (go_simp; with_reducible rfl))
                      try simp only [List.getElem_toArray, List.getElem_cons_succ, List.getElem_cons_zero, Act.put, List.setIfInBounds_toArray, List.set_cons_zero, List.set_cons_succ]
                      refine wpAnyH_ready (rs := [11]) (by kernel_rfl) (by simp) ?_
                      refine AllReadyH.cons rfl (fun K hK => ?_) AllReadyH.nil
                      go_simp
                      refine hK.out _ _ ?_ (fun hHeld => ?_)
                      · exact ⟨by rw [World.cell?_setCell_other _ _ _ _ (by simp <;> omega), World.cell?_setCell_other _ _ _ _ (by simp <;> omega)]; exact p0, by rw [World.cell?_setCell_other _ _ _ _ (by simp <;> omega), World.cell?_setCell_other _ _ _ _ (by simp <;> omega)]; exact p1⟩
                      clear hK K
                      try simp only [List.getElem_toArray, List.getElem_cons_succ, List.getElem_cons_zero, Act.put, List.setIfInBounds_toArray, List.set_cons_zero, List.set_cons_succ]
                      refine wpAnyH_done (by kernel_rfl) ?_ _
                      have CF : ClzAt v8 0 (.slice (some ⟨g8, 0, none⟩) (Ls.length + 1) c8) (Ls ++ [⟨E, 0, []⟩]) := own_clz (unhide hF) (by have := own_base (unhide hF); omega) (fun q hq => by
                        rcases List.mem_append.1 hq with h | h
                        · exact ((unhide HC0).1 q h).later (unhide hbw)
                        · simp at h; subst h; exact ⟨by simp only; omega, zE, fun i hi => by simp at hi, by simp, fun x hx => by cases hx⟩)
                      have CG : ∀ q, q ∈ Ls ++ [⟨E, 0, []⟩] → q.g ≠ D := fun q hq => by
                        rcases List.mem_append.1 hq with h | h
                        · have := ((unhide HC0).1 q h).2.1; omega
                        · simp at h; subst h; simp only; omega
                      go_wp2_with fail
                      go_meet
                      exact ⟨D, g8, c8, E, rfl, by rw [World.cell?_setCell_other _ _ _ _ (by simp)]; exact World.cell?_setCell_same _ _ _ hD0, World.cell?_setCell_same _ _ _ (by rw [World.cell?_setCell_other _ _ _ _ (by simp)]; exact hD1), (CF.set CG (by simp [Value.ownBlock]; omega)).set CG (by simp [Value.ownBlock]; omega), (((unhide hbw).setCell yD _).setCell yD _)⟩
                  · go_simp
                    obtain ⟨v10, hv10⟩ : ∃ x, x = v5.alloc (.cells #[.int .i64 0, .slice none 0 0] 25) := ⟨_, rfl⟩
                    have b10 : Below v5.heap.size v5 v10 := by rw [hv10]; exact (Below.refl _ _).alloc (Nat.le_refl _) _
                    have e10 : v5.heap.size < v10.heap.size := by rw [hv10]; simp
                    have f10 : wr.heap.size ≤ v5.heap.size := (unhide hbw).size
                    have hO := hide (World.ownsRow.kept (w' := v10) (unhide hO) (grown_below b10) (by simp [Value.ownBlock]))
                    have zO : g5 < v10.heap.size := Nat.lt_of_lt_of_le zO b10.size
                    have hbw := hide ((unhide hbw).trans (b10.mono (unhide hbw).size))
                    have p0 := cell_later b10 p0
                    have p1 := cell_later b10 p1
                    have hD0 : v10.cell? ⟨v5.heap.size, 0, none⟩ = some (.int .i64 0) := by rw [hv10]; simp [go_sem]
                    have hD1 : v10.cell? ⟨v5.heap.size, 1, none⟩ = some (.slice none 0 0) := by rw [hv10]; simp [go_sem]
                    have hDf0 : v10.frozen? ⟨v5.heap.size, 0, none⟩ = false := by rw [hv10]; simp [go_sem]
                    have hDf1 : v10.frozen? ⟨v5.heap.size, 1, none⟩ = false := by rw [hv10]; simp [go_sem]
                    have ng5D : g5 ≠ v5.heap.size := by omega
                    rw [← hv10]
                    obtain ⟨D, hDe⟩ : ∃ z, z = v5.heap.size := ⟨_, rfl⟩
                    rw [← hDe] at hD0 hD1 hDf0 hDf1 ng5D ⊢
                    have zD : D < v10.heap.size := by omega
                    have yD : wr.heap.size ≤ D := by omega
                    clear hv10 b10 e10 f10 hDe
                    refine hK.out _ _ ?_ (fun hHeld => ?_)
                    · exact ⟨p0, p1⟩
                    clear hK K
                    try simp only [List.getElem_toArray, List.getElem_cons_succ, List.getElem_cons_zero, Act.put, List.setIfInBounds_toArray, List.set_cons_zero, List.set_cons_succ]
                    refine wpAnyH_ready (rs := [6]) (by kernel_rfl) (by simp) ?_
                    refine AllReadyH.cons rfl (fun K hK => ?_) AllReadyH.nil
                    go_simp
                    obtain ⟨v6, hv6⟩ : ∃ x, x = v10.alloc (.cells #[] 3) := ⟨_, rfl⟩
                    have b6 : Below v10.heap.size v10 v6 := by rw [hv6]; exact (Below.refl _ _).alloc (Nat.le_refl _) _
                    have e6 : v10.heap.size < v6.heap.size := by rw [hv6]; simp
                    have f6 : wr.heap.size ≤ v10.heap.size := (unhide hbw).size
                    have hO := hide (World.ownsRow.kept (w' := v6) (unhide hO) (grown_below b6) (by simp [Value.ownBlock]))
                    have hD0 := cell_later b6 hD0
                    have hD1 := cell_later b6 hD1
                    have hDf0 := (b6.frozen (p := ⟨D, 0, none⟩) zD).trans hDf0
                    have hDf1 := (b6.frozen (p := ⟨D, 1, none⟩) zD).trans hDf1
                    have zO : g5 < v6.heap.size := Nat.lt_of_lt_of_le zO b6.size
                    have zD : D < v6.heap.size := Nat.lt_of_lt_of_le zD b6.size
                    have hbw := hide ((unhide hbw).trans (b6.mono (unhide hbw).size))
                    have p0 := cell_later b6 p0
                    have p1 := cell_later b6 p1
                    have ng5E : g5 ≠ v10.heap.size := by omega
                    have nDE : D ≠ v10.heap.size := by omega
                    rw [← hv6]
                    obtain ⟨E, hEe⟩ : ∃ z, z = v10.heap.size := ⟨_, rfl⟩
                    rw [← hEe] at  ng5E nDE ⊢
                    have zE : E < v6.heap.size := by omega
                    have yE : wr.heap.size ≤ E := by omega
                    clear hv6 b6 e6 f6 hEe
                    refine hK.out _ _ ?_ (fun hHeld => ?_)
                    · exact ⟨p0, p1⟩
                    clear hK K
                    try simp only [List.getElem_toArray, List.getElem_cons_succ, List.getElem_cons_zero, Act.put, List.setIfInBounds_toArray, List.set_cons_zero, List.set_cons_succ]
                    refine wpAnyH_ready (rs := [7]) (by kernel_rfl) (by simp) ?_
                    refine AllReadyH.cons rfl (fun K hK => ?_) AllReadyH.nil
                    go_simp
                    obtain ⟨v7, hv7⟩ : ∃ x, x = v6.alloc (.cells #[.slice (some ⟨E, 0, none⟩) 0 0] 32) := ⟨_, rfl⟩
                    have b7 : Below v6.heap.size v6 v7 := by rw [hv7]; exact (Below.refl _ _).alloc (Nat.le_refl _) _
                    have e7 : v6.heap.size < v7.heap.size := by rw [hv7]; simp
                    have f7 : wr.heap.size ≤ v6.heap.size := (unhide hbw).size
                    have hO := hide (World.ownsRow.kept (w' := v7) (unhide hO) (grown_below b7) (by simp [Value.ownBlock]))
                    have hD0 := cell_later b7 hD0
                    have hD1 := cell_later b7 hD1
                    have hDf0 := (b7.frozen (p := ⟨D, 0, none⟩) zD).trans hDf0
                    have hDf1 := (b7.frozen (p := ⟨D, 1, none⟩) zD).trans hDf1
                    have zO : g5 < v7.heap.size := Nat.lt_of_lt_of_le zO b7.size
                    have zE : E < v7.heap.size := Nat.lt_of_lt_of_le zE b7.size
                    have zD : D < v7.heap.size := Nat.lt_of_lt_of_le zD b7.size
                    have hbw := hide ((unhide hbw).trans (b7.mono (unhide hbw).size))
                    have p0 := cell_later b7 p0
                    have p1 := cell_later b7 p1
                    have hT : v7.cell? ⟨v6.heap.size, 0, none⟩ = some (.slice (some ⟨E, 0, none⟩) 0 0) := by rw [hv7]; simp [go_sem]
                    have ng5T : g5 ≠ v6.heap.size := by omega
                    have nET : E ≠ v6.heap.size := by omega
                    have nDT : D ≠ v6.heap.size := by omega
                    rw [← hv7]
                    obtain ⟨T, hTe⟩ : ∃ z, z = v6.heap.size := ⟨_, rfl⟩
                    rw [← hTe] at hT ng5T nET nDT ⊢
                    have zT : T < v7.heap.size := by omega
                    have yT : wr.heap.size ≤ T := by omega
                    clear hv7 b7 e7 f7 hTe
                    refine hK.out _ _ ?_ (fun hHeld => ?_)
                    · exact ⟨p0, p1⟩
                    clear hK K
                    try simp only [List.getElem_toArray, List.getElem_cons_succ, List.getElem_cons_zero, Act.put, List.setIfInBounds_toArray, List.set_cons_zero, List.set_cons_succ]
                    refine wpAnyH_ready (rs := [8]) (by kernel_rfl) (by simp) ?_
                    refine AllReadyH.cons rfl (fun K hK => ?_) AllReadyH.nil
                    apply step_clz_one (Ls := Ls) (q := ⟨E, 0, []⟩) (base := wr.heap.size)
                    case hgd => rfl
                    case ho => rfl
                    case hty => rfl
                    case hs => rfl
                    case hown => exact unhide hO
                    case hbase => exact (unhide hbw).size
                    case hx => rfl
                    case hT => exact hT
                    case hl => omega
                    case' h => intro g8 c8 v8 o8 gr8 at8 lt8
                    have mv8 : Mov g5 _ v8 := mov_of_grown gr8
                    have zE : E < v8.heap.size := Nat.lt_of_lt_of_le zE mv8.size
                    have hD0 := mv8.cell hD0 (by simp only; omega)
                    have hD1 := mv8.cell hD1 (by simp only; omega)
                    have hDf0 := (World.frozen?_of_block (w := v7) (a := ⟨D, 0, none⟩) (mv8.2.2.2.2 D zD (by omega))).trans hDf0
                    have hDf1 := (World.frozen?_of_block (w := v7) (a := ⟨D, 1, none⟩) (mv8.2.2.2.2 D zD (by omega))).trans hDf1
                    have zD : D < v8.heap.size := Nat.lt_of_lt_of_le zD mv8.size
                    have p0 := mv8.cell p0 (by simp only; omega)
                    have p1 := mv8.cell p1 (by simp only; omega)
                    have hbw := hide ((unhide hbw).trans (mv8.below yg5 (unhide hbw).size))
                    have hF := hide o8
                    have zF := lt8
                    have ng8D : g8 ≠ D := by rcases at8 with e | e <;> omega
                    clear o8 gr8 at8 lt8 mv8 hO zO hT zT
                    refine hK.out _ _ ?_ (fun hHeld => ?_)
                    · exact ⟨p0, p1⟩
                    clear hK K
                    try simp only [List.getElem_toArray, List.getElem_cons_succ, List.getElem_cons_zero, Act.put, List.setIfInBounds_toArray, List.set_cons_zero, List.set_cons_succ]
                    refine wpAnyH_take (i := 9) (v := ?_) rfl (by kernel_rfl) (by kernel_rfl) (by kernel_rfl) (fun _ _ _ h => h) (Or.inl ⟨by rfl, ?_⟩) (by assumption) ?_
                    rotate_left
                    · (intro w hSw; (try dsimp only at hSw); first | (go_simp; done) | (go_simp; with_reducible rfl))
                    try simp only [List.getElem_toArray, List.getElem_cons_succ, List.getElem_cons_zero, Act.put, List.setIfInBounds_toArray, List.set_cons_zero, List.set_cons_succ]
                    refine wpAnyH_ready (rs := [11]) (by kernel_rfl) (by simp) ?_
                    refine AllReadyH.cons rfl (fun K hK => ?_) AllReadyH.nil
                    go_simp
                    refine hK.out _ _ ?_ (fun hHeld => ?_)
                    · exact ⟨by rw [World.cell?_setCell_other _ _ _ _ (by simp <;> omega), World.cell?_setCell_other _ _ _ _ (by simp <;> omega)]; exact p0, by rw [World.cell?_setCell_other _ _ _ _ (by simp <;> omega), World.cell?_setCell_other _ _ _ _ (by simp <;> omega)]; exact p1⟩
                    clear hK K
                    try simp only [List.getElem_toArray, List.getElem_cons_succ, List.getElem_cons_zero, Act.put, List.setIfInBounds_toArray, List.set_cons_zero, List.set_cons_succ]
                    refine wpAnyH_done (by kernel_rfl) ?_ _
                    have CF : ClzAt v8 0 (.slice (some ⟨g8, 0, none⟩) (Ls.length + 1) c8) (Ls ++ [⟨E, 0, []⟩]) := own_clz (unhide hF) (by have := own_base (unhide hF); omega) (fun q hq => by
                      rcases List.mem_append.1 hq with h | h
                      · exact ((unhide HC0).1 q h).later (unhide hbw)
                      · simp at h; subst h; exact ⟨by simp only; omega, zE, fun i hi => by simp at hi, by simp, fun x hx => by cases hx⟩)
                    have CG : ∀ q, q ∈ Ls ++ [⟨E, 0, []⟩] → q.g ≠ D := fun q hq => by
                      rcases List.mem_append.1 hq with h | h
                      · have := ((unhide HC0).1 q h).2.1; omega
                      · simp at h; subst h; simp only; omega
                    go_wp2_with fail
                    go_meet
                    exact ⟨D, g8, c8, E, rfl, by rw [World.cell?_setCell_other _ _ _ _ (by simp)]; exact World.cell?_setCell_same _ _ _ hD0, World.cell?_setCell_same _ _ _ (by rw [World.cell?_setCell_other _ _ _ _ (by simp)]; exact hD1), (CF.set CG (by simp [Value.ownBlock]; omega)).set CG (by simp [Value.ownBlock]; omega), (((unhide hbw).setCell yD _).setCell yD _)⟩
                · go_simp
                  obtain ⟨v6, hv6⟩ : ∃ x, x = v2.alloc (.cells #[] 3) := ⟨_, rfl⟩
                  have b6 : Below v2.heap.size v2 v6 := by rw [hv6]; exact (Below.refl _ _).alloc (Nat.le_refl _) _
                  have e6 : v2.heap.size < v6.heap.size := by rw [hv6]; simp
                  have f6 : wr.heap.size ≤ v2.heap.size := (unhide hbw).size
                  have hX : Hid (v6.heap[X]? = some (.cells #[] 32 (0, 0))) := (b6.block _ (by omega)).trans (unhide hX)
                  have zX : X < v6.heap.size := Nat.lt_of_lt_of_le zX b6.size
                  have hbw := hide ((unhide hbw).trans (b6.mono (unhide hbw).size))
                  have p0 := cell_later b6 p0
                  have p1 := cell_later b6 p1
                  have nXE : X ≠ v2.heap.size := by omega
                  rw [← hv6]
                  obtain ⟨E, hEe⟩ : ∃ z, z = v2.heap.size := ⟨_, rfl⟩
                  rw [← hEe] at  nXE ⊢
                  have zE : E < v6.heap.size := by omega
                  have yE : wr.heap.size ≤ E := by omega
                  clear hv6 b6 e6 f6 hEe
                  refine hK.out _ _ ?_ (fun hHeld => ?_)
                  · exact ⟨p0, p1⟩
                  clear hK K
                  try simp only [List.getElem_toArray, List.getElem_cons_succ, List.getElem_cons_zero, Act.put, List.setIfInBounds_toArray, List.set_cons_zero, List.set_cons_succ]
                  refine wpAnyH_ready (rs := [5, 7, 10]) (by kernel_rfl) (by simp) ?_
                  refine AllReadyH.cons rfl (fun K hK => ?_) (AllReadyH.cons rfl (fun K hK => ?_) (AllReadyH.cons rfl (fun K hK => ?_) AllReadyH.nil))
                  · apply step_clz_copy (R := 0) (Ls := Ls) (base := wr.heap.size)
                    case hgd => rfl
                    case ho => rfl
                    case hty => rfl
                    case hs => rfl
                    case hX => exact unhide hX
                    case hbX => exact yX
                    case hbase => exact (unhide hbw).size
                    case hx => rfl
                    case hc => exact (unhide HC0).later (unhide hbw)
                    case hl => omega
                    case' h => intro g5 c5 v5 o5 gr5 at5 lt5
                    have mv5 : Mov X _ v5 := mov_of_grown gr5
                    have zE : E < v5.heap.size := Nat.lt_of_lt_of_le zE mv5.size
                    have p0 := mv5.cell p0 (by simp only; omega)
                    have p1 := mv5.cell p1 (by simp only; omega)
                    have hbw := hide ((unhide hbw).trans (mv5.below yX (unhide hbw).size))
                    have hO := hide o5
                    have zO := lt5
                    have yg5 : wr.heap.size ≤ g5 := own_base o5
                    have ng5E : g5 ≠ E := by rcases at5 with e | e <;> omega
                    clear o5 gr5 at5 lt5 mv5 hX zX yX
                    refine hK.out _ _ ?_ (fun hHeld => ?_)
                    · exact ⟨p0, p1⟩
                    clear hK K
                    try simp only [List.getElem_toArray, List.getElem_cons_succ, List.getElem_cons_zero, Act.put, List.setIfInBounds_toArray, List.set_cons_zero, List.set_cons_succ]
                    refine wpAnyH_ready (rs := [7, 10]) (by kernel_rfl) (by simp) ?_
                    refine AllReadyH.cons rfl (fun K hK => ?_) (AllReadyH.cons rfl (fun K hK => ?_) AllReadyH.nil)
                    · go_simp
                      obtain ⟨v7, hv7⟩ : ∃ x, x = v5.alloc (.cells #[.slice (some ⟨E, 0, none⟩) 0 0] 32) := ⟨_, rfl⟩
                      have b7 : Below v5.heap.size v5 v7 := by rw [hv7]; exact (Below.refl _ _).alloc (Nat.le_refl _) _
                      have e7 : v5.heap.size < v7.heap.size := by rw [hv7]; simp
                      have f7 : wr.heap.size ≤ v5.heap.size := (unhide hbw).size
                      have hO := hide (World.ownsRow.kept (w' := v7) (unhide hO) (grown_below b7) (by simp [Value.ownBlock]))
                      have zO : g5 < v7.heap.size := Nat.lt_of_lt_of_le zO b7.size
                      have zE : E < v7.heap.size := Nat.lt_of_lt_of_le zE b7.size
                      have hbw := hide ((unhide hbw).trans (b7.mono (unhide hbw).size))
                      have p0 := cell_later b7 p0
                      have p1 := cell_later b7 p1
                      have hT : v7.cell? ⟨v5.heap.size, 0, none⟩ = some (.slice (some ⟨E, 0, none⟩) 0 0) := by rw [hv7]; simp [go_sem]
                      have ng5T : g5 ≠ v5.heap.size := by omega
                      have nET : E ≠ v5.heap.size := by omega
                      rw [← hv7]
                      obtain ⟨T, hTe⟩ : ∃ z, z = v5.heap.size := ⟨_, rfl⟩
                      rw [← hTe] at hT ng5T nET ⊢
                      have zT : T < v7.heap.size := by omega
                      have yT : wr.heap.size ≤ T := by omega
                      clear hv7 b7 e7 f7 hTe
                      refine hK.out _ _ ?_ (fun hHeld => ?_)
                      · exact ⟨p0, p1⟩
                      clear hK K
                      try simp only [List.getElem_toArray, List.getElem_cons_succ, List.getElem_cons_zero, Act.put, List.setIfInBounds_toArray, List.set_cons_zero, List.set_cons_succ]
                      refine wpAnyH_ready (rs := [8, 10]) (by kernel_rfl) (by simp) ?_
                      refine AllReadyH.cons rfl (fun K hK => ?_) (AllReadyH.cons rfl (fun K hK => ?_) AllReadyH.nil)
                      · apply step_clz_one (Ls := Ls) (q := ⟨E, 0, []⟩) (base := wr.heap.size)
                        case hgd => rfl
                        case ho => rfl
                        case hty => rfl
                        case hs => rfl
                        case hown => exact unhide hO
                        case hbase => exact (unhide hbw).size
                        case hx => rfl
                        case hT => exact hT
                        case hl => omega
                        case' h => intro g8 c8 v8 o8 gr8 at8 lt8
                        have mv8 : Mov g5 _ v8 := mov_of_grown gr8
                        have zE : E < v8.heap.size := Nat.lt_of_lt_of_le zE mv8.size
                        have p0 := mv8.cell p0 (by simp only; omega)
                        have p1 := mv8.cell p1 (by simp only; omega)
                        have hbw := hide ((unhide hbw).trans (mv8.below yg5 (unhide hbw).size))
                        have hF := hide o8
                        have zF := lt8
                        clear o8 gr8 at8 lt8 mv8 hO zO hT zT
                        refine hK.out _ _ ?_ (fun hHeld => ?_)
                        · exact ⟨p0, p1⟩
                        clear hK K
                        try simp only [List.getElem_toArray, List.getElem_cons_succ, List.getElem_cons_zero, Act.put, List.setIfInBounds_toArray, List.set_cons_zero, List.set_cons_succ]
                        refine wpAnyH_take (i := 9) (v := ?_) rfl (by kernel_rfl) (by kernel_rfl) (by kernel_rfl) (fun _ _ _ h => h) (Or.inl ⟨by rfl, ?_⟩) (by assumption) ?_
                        rotate_left
                        · (intro w hSw; (try dsimp only at hSw); first | (go_simp; done) | (go_simp; with_reducible rfl))
                        try simp only [List.getElem_toArray, List.getElem_cons_succ, List.getElem_cons_zero, Act.put, List.setIfInBounds_toArray, List.set_cons_zero, List.set_cons_succ]
                        refine wpAnyH_ready (rs := [10]) (by kernel_rfl) (by simp) ?_
                        refine AllReadyH.cons rfl (fun K hK => ?_) AllReadyH.nil
                        go_simp
                        obtain ⟨v10, hv10⟩ : ∃ x, x = v8.alloc (.cells #[.int .i64 0, .slice none 0 0] 25) := ⟨_, rfl⟩
                        have b10 : Below v8.heap.size v8 v10 := by rw [hv10]; exact (Below.refl _ _).alloc (Nat.le_refl _) _
                        have e10 : v8.heap.size < v10.heap.size := by rw [hv10]; simp
                        have f10 : wr.heap.size ≤ v8.heap.size := (unhide hbw).size
                        have hF := hide (World.ownsRow.kept (w' := v10) (unhide hF) (grown_below b10) (by simp [Value.ownBlock]))
                        have zF : g8 < v10.heap.size := Nat.lt_of_lt_of_le zF b10.size
                        have zE : E < v10.heap.size := Nat.lt_of_lt_of_le zE b10.size
                        have hbw := hide ((unhide hbw).trans (b10.mono (unhide hbw).size))
                        have p0 := cell_later b10 p0
                        have p1 := cell_later b10 p1
                        have hD0 : v10.cell? ⟨v8.heap.size, 0, none⟩ = some (.int .i64 0) := by rw [hv10]; simp [go_sem]
                        have hD1 : v10.cell? ⟨v8.heap.size, 1, none⟩ = some (.slice none 0 0) := by rw [hv10]; simp [go_sem]
                        have hDf0 : v10.frozen? ⟨v8.heap.size, 0, none⟩ = false := by rw [hv10]; simp [go_sem]
                        have hDf1 : v10.frozen? ⟨v8.heap.size, 1, none⟩ = false := by rw [hv10]; simp [go_sem]
                        have ng8D : g8 ≠ v8.heap.size := by omega
                        have nED : E ≠ v8.heap.size := by omega
                        rw [← hv10]
                        obtain ⟨D, hDe⟩ : ∃ z, z = v8.heap.size := ⟨_, rfl⟩
                        rw [← hDe] at hD0 hD1 hDf0 hDf1 ng8D nED ⊢
                        have zD : D < v10.heap.size := by omega
                        have yD : wr.heap.size ≤ D := by omega
                        clear hv10 b10 e10 f10 hDe
                        refine hK.out _ _ ?_ (fun hHeld => ?_)
                        · exact ⟨p0, p1⟩
                        clear hK K
                        try simp only [List.getElem_toArray, List.getElem_cons_succ, List.getElem_cons_zero, Act.put, List.setIfInBounds_toArray, List.set_cons_zero, List.set_cons_succ]
                        refine wpAnyH_ready (rs := [11]) (by kernel_rfl) (by simp) ?_
                        refine AllReadyH.cons rfl (fun K hK => ?_) AllReadyH.nil
                        go_simp
                        refine hK.out _ _ ?_ (fun hHeld => ?_)
                        · exact ⟨by rw [World.cell?_setCell_other _ _ _ _ (by simp <;> omega), World.cell?_setCell_other _ _ _ _ (by simp <;> omega)]; exact p0, by rw [World.cell?_setCell_other _ _ _ _ (by simp <;> omega), World.cell?_setCell_other _ _ _ _ (by simp <;> omega)]; exact p1⟩
                        clear hK K
                        try simp only [List.getElem_toArray, List.getElem_cons_succ, List.getElem_cons_zero, Act.put, List.setIfInBounds_toArray, List.set_cons_zero, List.set_cons_succ]
                        refine wpAnyH_done (by kernel_rfl) ?_ _
                        have CF : ClzAt v10 0 (.slice (some ⟨g8, 0, none⟩) (Ls.length + 1) c8) (Ls ++ [⟨E, 0, []⟩]) := own_clz (unhide hF) (by have := own_base (unhide hF); omega) (fun q hq => by
                          rcases List.mem_append.1 hq with h | h
                          · exact ((unhide HC0).1 q h).later (unhide hbw)
                          · simp at h; subst h; exact ⟨by simp only; omega, zE, fun i hi => by simp at hi, by simp, fun x hx => by cases hx⟩)
                        have CG : ∀ q, q ∈ Ls ++ [⟨E, 0, []⟩] → q.g ≠ D := fun q hq => by
                          rcases List.mem_append.1 hq with h | h
                          · have := ((unhide HC0).1 q h).2.1; omega
                          · simp at h; subst h; simp only; omega
                        go_wp2_with fail
                        go_meet
                        exact ⟨D, g8, c8, E, rfl, by rw [World.cell?_setCell_other _ _ _ _ (by simp)]; exact World.cell?_setCell_same _ _ _ hD0, World.cell?_setCell_same _ _ _ (by rw [World.cell?_setCell_other _ _ _ _ (by simp)]; exact hD1), (CF.set CG (by simp [Value.ownBlock]; omega)).set CG (by simp [Value.ownBlock]; omega), (((unhide hbw).setCell yD _).setCell yD _)⟩
                      · go_simp
                        obtain ⟨v10, hv10⟩ : ∃ x, x = v7.alloc (.cells #[.int .i64 0, .slice none 0 0] 25) := ⟨_, rfl⟩
                        have b10 : Below v7.heap.size v7 v10 := by rw [hv10]; exact (Below.refl _ _).alloc (Nat.le_refl _) _
                        have e10 : v7.heap.size < v10.heap.size := by rw [hv10]; simp
                        have f10 : wr.heap.size ≤ v7.heap.size := (unhide hbw).size
                        have hO := hide (World.ownsRow.kept (w' := v10) (unhide hO) (grown_below b10) (by simp [Value.ownBlock]))
                        have hT := cell_later b10 hT
                        have zO : g5 < v10.heap.size := Nat.lt_of_lt_of_le zO b10.size
                        have zT : T < v10.heap.size := Nat.lt_of_lt_of_le zT b10.size
                        have zE : E < v10.heap.size := Nat.lt_of_lt_of_le zE b10.size
                        have hbw := hide ((unhide hbw).trans (b10.mono (unhide hbw).size))
                        have p0 := cell_later b10 p0
                        have p1 := cell_later b10 p1
                        have hD0 : v10.cell? ⟨v7.heap.size, 0, none⟩ = some (.int .i64 0) := by rw [hv10]; simp [go_sem]
                        have hD1 : v10.cell? ⟨v7.heap.size, 1, none⟩ = some (.slice none 0 0) := by rw [hv10]; simp [go_sem]
                        have hDf0 : v10.frozen? ⟨v7.heap.size, 0, none⟩ = false := by rw [hv10]; simp [go_sem]
                        have hDf1 : v10.frozen? ⟨v7.heap.size, 1, none⟩ = false := by rw [hv10]; simp [go_sem]
                        have ng5D : g5 ≠ v7.heap.size := by omega
                        have nTD : T ≠ v7.heap.size := by omega
                        have nED : E ≠ v7.heap.size := by omega
                        rw [← hv10]
                        obtain ⟨D, hDe⟩ : ∃ z, z = v7.heap.size := ⟨_, rfl⟩
                        rw [← hDe] at hD0 hD1 hDf0 hDf1 ng5D nTD nED ⊢
                        have zD : D < v10.heap.size := by omega
                        have yD : wr.heap.size ≤ D := by omega
                        clear hv10 b10 e10 f10 hDe
                        refine hK.out _ _ ?_ (fun hHeld => ?_)
                        · exact ⟨p0, p1⟩
                        clear hK K
                        try simp only [List.getElem_toArray, List.getElem_cons_succ, List.getElem_cons_zero, Act.put, List.setIfInBounds_toArray, List.set_cons_zero, List.set_cons_succ]
                        refine wpAnyH_ready (rs := [8]) (by kernel_rfl) (by simp) ?_
                        refine AllReadyH.cons rfl (fun K hK => ?_) AllReadyH.nil
                        apply step_clz_one (Ls := Ls) (q := ⟨E, 0, []⟩) (base := wr.heap.size)
                        case hgd => rfl
                        case ho => rfl
                        case hty => rfl
                        case hs => rfl
                        case hown => exact unhide hO
                        case hbase => exact (unhide hbw).size
                        case hx => rfl
                        case hT => exact hT
                        case hl => omega
                        case' h => intro g8 c8 v8 o8 gr8 at8 lt8
                        have mv8 : Mov g5 _ v8 := mov_of_grown gr8
                        have zE : E < v8.heap.size := Nat.lt_of_lt_of_le zE mv8.size
                        have hD0 := mv8.cell hD0 (by simp only; omega)
                        have hD1 := mv8.cell hD1 (by simp only; omega)
                        have hDf0 := (World.frozen?_of_block (w := v10) (a := ⟨D, 0, none⟩) (mv8.2.2.2.2 D zD (by omega))).trans hDf0
                        have hDf1 := (World.frozen?_of_block (w := v10) (a := ⟨D, 1, none⟩) (mv8.2.2.2.2 D zD (by omega))).trans hDf1
                        have zD : D < v8.heap.size := Nat.lt_of_lt_of_le zD mv8.size
                        have p0 := mv8.cell p0 (by simp only; omega)
                        have p1 := mv8.cell p1 (by simp only; omega)
                        have hbw := hide ((unhide hbw).trans (mv8.below yg5 (unhide hbw).size))
                        have hF := hide o8
                        have zF := lt8
                        have ng8D : g8 ≠ D := by rcases at8 with e | e <;> omega
                        clear o8 gr8 at8 lt8 mv8 hO zO hT zT
                        refine hK.out _ _ ?_ (fun hHeld => ?_)
                        · exact ⟨p0, p1⟩
                        clear hK K
                        try simp only [List.getElem_toArray, List.getElem_cons_succ, List.getElem_cons_zero, Act.put, List.setIfInBounds_toArray, List.set_cons_zero, List.set_cons_succ]
                        refine wpAnyH_take (i := 9) (v := ?_) rfl (by kernel_rfl) (by kernel_rfl) (by kernel_rfl) (fun _ _ _ h => h) (Or.inl ⟨by rfl, ?_⟩) (by assumption) ?_
                        rotate_left
                        · (intro w hSw; (try dsimp only at hSw); first | (go_simp; done) | (go_simp; with_reducible rfl))
                        try simp only [List.getElem_toArray, List.getElem_cons_succ, List.getElem_cons_zero, Act.put, List.setIfInBounds_toArray, List.set_cons_zero, List.set_cons_succ]
                        refine wpAnyH_ready (rs := [11]) (by kernel_rfl) (by simp) ?_
                        refine AllReadyH.cons rfl (fun K hK => ?_) AllReadyH.nil
                        go_simp
                        refine hK.out _ _ ?_ (fun hHeld => ?_)
                        · exact ⟨by rw [World.cell?_setCell_other _ _ _ _ (by simp <;> omega), World.cell?_setCell_other _ _ _ _ (by simp <;> omega)]; exact p0, by rw [World.cell?_setCell_other _ _ _ _ (by simp <;> omega), World.cell?_setCell_other _ _ _ _ (by simp <;> omega)]; exact p1⟩
                        clear hK K
                        try simp only [List.getElem_toArray, List.getElem_cons_succ, List.getElem_cons_zero, Act.put, List.setIfInBounds_toArray, List.set_cons_zero, List.set_cons_succ]
                        refine wpAnyH_done (by kernel_rfl) ?_ _
                        have CF : ClzAt v8 0 (.slice (some ⟨g8, 0, none⟩) (Ls.length + 1) c8) (Ls ++ [⟨E, 0, []⟩]) := own_clz (unhide hF) (by have := own_base (unhide hF); omega) (fun q hq => by
                          rcases List.mem_append.1 hq with h | h
                          · exact ((unhide HC0).1 q h).later (unhide hbw)
                          · simp at h; subst h; exact ⟨by simp only; omega, zE, fun i hi => by simp at hi, by simp, fun x hx => by cases hx⟩)
                        have CG : ∀ q, q ∈ Ls ++ [⟨E, 0, []⟩] → q.g ≠ D := fun q hq => by
                          rcases List.mem_append.1 hq with h | h
                          · have := ((unhide HC0).1 q h).2.1; omega
                          · simp at h; subst h; simp only; omega
                        go_wp2_with fail
                        go_meet
                        exact ⟨D, g8, c8, E, rfl, by rw [World.cell?_setCell_other _ _ _ _ (by simp)]; exact World.cell?_setCell_same _ _ _ hD0, World.cell?_setCell_same _ _ _ (by rw [World.cell?_setCell_other _ _ _ _ (by simp)]; exact hD1), (CF.set CG (by simp [Value.ownBlock]; omega)).set CG (by simp [Value.ownBlock]; omega), (((unhide hbw).setCell yD _).setCell yD _)⟩
                    · go_simp
                      obtain ⟨v10, hv10⟩ : ∃ x, x = v5.alloc (.cells #[.int .i64 0, .slice none 0 0] 25) := ⟨_, rfl⟩
                      have b10 : Below v5.heap.size v5 v10 := by rw [hv10]; exact (Below.refl _ _).alloc (Nat.le_refl _) _
                      have e10 : v5.heap.size < v10.heap.size := by rw [hv10]; simp
                      have f10 : wr.heap.size ≤ v5.heap.size := (unhide hbw).size
                      have hO := hide (World.ownsRow.kept (w' := v10) (unhide hO) (grown_below b10) (by simp [Value.ownBlock]))
                      have zO : g5 < v10.heap.size := Nat.lt_of_lt_of_le zO b10.size
                      have zE : E < v10.heap.size := Nat.lt_of_lt_of_le zE b10.size
                      have hbw := hide ((unhide hbw).trans (b10.mono (unhide hbw).size))
                      have p0 := cell_later b10 p0
                      have p1 := cell_later b10 p1
                      have hD0 : v10.cell? ⟨v5.heap.size, 0, none⟩ = some (.int .i64 0) := by rw [hv10]; simp [go_sem]
                      have hD1 : v10.cell? ⟨v5.heap.size, 1, none⟩ = some (.slice none 0 0) := by rw [hv10]; simp [go_sem]
                      have hDf0 : v10.frozen? ⟨v5.heap.size, 0, none⟩ = false := by rw [hv10]; simp [go_sem]
                      have hDf1 : v10.frozen? ⟨v5.heap.size, 1, none⟩ = false := by rw [hv10]; simp [go_sem]
                      have ng5D : g5 ≠ v5.heap.size := by omega
                      have nED : E ≠ v5.heap.size := by omega
                      rw [← hv10]
                      obtain ⟨D, hDe⟩ : ∃ z, z = v5.heap.size := ⟨_, rfl⟩
                      rw [← hDe] at hD0 hD1 hDf0 hDf1 ng5D nED ⊢
                      have zD : D < v10.heap.size := by omega
                      have yD : wr.heap.size ≤ D := by omega
                      clear hv10 b10 e10 f10 hDe
                      refine hK.out _ _ ?_ (fun hHeld => ?_)
                      · exact ⟨p0, p1⟩
                      clear hK K
                      try simp only [List.getElem_toArray, List.getElem_cons_succ, List.getElem_cons_zero, Act.put, List.setIfInBounds_toArray, List.set_cons_zero, List.set_cons_succ]
                      refine wpAnyH_ready (rs := [7]) (by kernel_rfl) (by simp) ?_
                      refine AllReadyH.cons rfl (fun K hK => ?_) AllReadyH.nil
                      go_simp
                      obtain ⟨v7, hv7⟩ : ∃ x, x = v10.alloc (.cells #[.slice (some ⟨E, 0, none⟩) 0 0] 32) := ⟨_, rfl⟩
                      have b7 : Below v10.heap.size v10 v7 := by rw [hv7]; exact (Below.refl _ _).alloc (Nat.le_refl _) _
                      have e7 : v10.heap.size < v7.heap.size := by rw [hv7]; simp
                      have f7 : wr.heap.size ≤ v10.heap.size := (unhide hbw).size
                      have hO := hide (World.ownsRow.kept (w' := v7) (unhide hO) (grown_below b7) (by simp [Value.ownBlock]))
                      have hD0 := cell_later b7 hD0
                      have hD1 := cell_later b7 hD1
                      have hDf0 := (b7.frozen (p := ⟨D, 0, none⟩) zD).trans hDf0
                      have hDf1 := (b7.frozen (p := ⟨D, 1, none⟩) zD).trans hDf1
                      have zO : g5 < v7.heap.size := Nat.lt_of_lt_of_le zO b7.size
                      have zE : E < v7.heap.size := Nat.lt_of_lt_of_le zE b7.size
                      have zD : D < v7.heap.size := Nat.lt_of_lt_of_le zD b7.size
                      have hbw := hide ((unhide hbw).trans (b7.mono (unhide hbw).size))
                      have p0 := cell_later b7 p0
                      have p1 := cell_later b7 p1
                      have hT : v7.cell? ⟨v10.heap.size, 0, none⟩ = some (.slice (some ⟨E, 0, none⟩) 0 0) := by rw [hv7]; simp [go_sem]
                      have ng5T : g5 ≠ v10.heap.size := by omega
                      have nET : E ≠ v10.heap.size := by omega
                      have nDT : D ≠ v10.heap.size := by omega
                      rw [← hv7]
                      obtain ⟨T, hTe⟩ : ∃ z, z = v10.heap.size := ⟨_, rfl⟩
                      rw [← hTe] at hT ng5T nET nDT ⊢
                      have zT : T < v7.heap.size := by omega
                      have yT : wr.heap.size ≤ T := by omega
                      clear hv7 b7 e7 f7 hTe
                      refine hK.out _ _ ?_ (fun hHeld => ?_)
                      · exact ⟨p0, p1⟩
                      clear hK K
                      try simp only [List.getElem_toArray, List.getElem_cons_succ, List.getElem_cons_zero, Act.put, List.setIfInBounds_toArray, List.set_cons_zero, List.set_cons_succ]
                      refine wpAnyH_ready (rs := [8]) (by kernel_rfl) (by simp) ?_
                      refine AllReadyH.cons rfl (fun K hK => ?_) AllReadyH.nil
                      apply step_clz_one (Ls := Ls) (q := ⟨E, 0, []⟩) (base := wr.heap.size)
                      case hgd => rfl
                      case ho => rfl
                      case hty => rfl
                      case hs => rfl
                      case hown => exact unhide hO
                      case hbase => exact (unhide hbw).size
                      case hx => rfl
                      case hT => exact hT
                      case hl => omega
                      case' h => intro g8 c8 v8 o8 gr8 at8 lt8
                      have mv8 : Mov g5 _ v8 := mov_of_grown gr8
                      have zE : E < v8.heap.size := Nat.lt_of_lt_of_le zE mv8.size
                      have hD0 := mv8.cell hD0 (by simp only; omega)
                      have hD1 := mv8.cell hD1 (by simp only; omega)
                      have hDf0 := (World.frozen?_of_block (w := v7) (a := ⟨D, 0, none⟩) (mv8.2.2.2.2 D zD (by omega))).trans hDf0
                      have hDf1 := (World.frozen?_of_block (w := v7) (a := ⟨D, 1, none⟩) (mv8.2.2.2.2 D zD (by omega))).trans hDf1
                      have zD : D < v8.heap.size := Nat.lt_of_lt_of_le zD mv8.size
                      have p0 := mv8.cell p0 (by simp only; omega)
                      have p1 := mv8.cell p1 (by simp only; omega)
                      have hbw := hide ((unhide hbw).trans (mv8.below yg5 (unhide hbw).size))
                      have hF := hide o8
                      have zF := lt8
                      have ng8D : g8 ≠ D := by rcases at8 with e | e <;> omega
                      clear o8 gr8 at8 lt8 mv8 hO zO hT zT
                      refine hK.out _ _ ?_ (fun hHeld => ?_)
                      · exact ⟨p0, p1⟩
                      clear hK K
                      try simp only [List.getElem_toArray, List.getElem_cons_succ, List.getElem_cons_zero, Act.put, List.setIfInBounds_toArray, List.set_cons_zero, List.set_cons_succ]
                      refine wpAnyH_take (i := 9) (v := ?_) rfl (by kernel_rfl) (by kernel_rfl) (by kernel_rfl) (fun _ _ _ h => h) (Or.inl ⟨by rfl, ?_⟩) (by assumption) ?_
                      rotate_left
                      · (intro w hSw; (try dsimp only at hSw); first | (go_simp; done) | (go_simp; with_reducible rfl))
                      try simp only [List.getElem_toArray, List.getElem_cons_succ, List.getElem_cons_zero, Act.put, List.setIfInBounds_toArray, List.set_cons_zero, List.set_cons_succ]
                      refine wpAnyH_ready (rs := [11]) (by kernel_rfl) (by simp) ?_
                      refine AllReadyH.cons rfl (fun K hK => ?_) AllReadyH.nil
                      go_simp
                      refine hK.out _ _ ?_ (fun hHeld => ?_)
                      · exact ⟨by rw [World.cell?_setCell_other _ _ _ _ (by simp <;> omega), World.cell?_setCell_other _ _ _ _ (by simp <;> omega)]; exact p0, by rw [World.cell?_setCell_other _ _ _ _ (by simp <;> omega), World.cell?_setCell_other _ _ _ _ (by simp <;> omega)]; exact p1⟩
                      clear hK K
                      try simp only [List.getElem_toArray, List.getElem_cons_succ, List.getElem_cons_zero, Act.put, List.setIfInBounds_toArray, List.set_cons_zero, List.set_cons_succ]
                      refine wpAnyH_done (by kernel_rfl) ?_ _
                      have CF : ClzAt v8 0 (.slice (some ⟨g8, 0, none⟩) (Ls.length + 1) c8) (Ls ++ [⟨E, 0, []⟩]) := own_clz (unhide hF) (by have := own_base (unhide hF); omega) (fun q hq => by
                        rcases List.mem_append.1 hq with h | h
                        · exact ((unhide HC0).1 q h).later (unhide hbw)
                        · simp at h; subst h; exact ⟨by simp only; omega, zE, fun i hi => by simp at hi, by simp, fun x hx => by cases hx⟩)
                      have CG : ∀ q, q ∈ Ls ++ [⟨E, 0, []⟩] → q.g ≠ D := fun q hq => by
                        rcases List.mem_append.1 hq with h | h
                        · have := ((unhide HC0).1 q h).2.1; omega
                        · simp at h; subst h; simp only; omega
                      go_wp2_with fail
                      go_meet
                      exact ⟨D, g8, c8, E, rfl, by rw [World.cell?_setCell_other _ _ _ _ (by simp)]; exact World.cell?_setCell_same _ _ _ hD0, World.cell?_setCell_same _ _ _ (by rw [World.cell?_setCell_other _ _ _ _ (by simp)]; exact hD1), (CF.set CG (by simp [Value.ownBlock]; omega)).set CG (by simp [Value.ownBlock]; omega), (((unhide hbw).setCell yD _).setCell yD _)⟩
                  · go_simp
                    obtain ⟨v7, hv7⟩ : ∃ x, x = v6.alloc (.cells #[.slice (some ⟨E, 0, none⟩) 0 0] 32) := ⟨_, rfl⟩
                    have b7 : Below v6.heap.size v6 v7 := by rw [hv7]; exact (Below.refl _ _).alloc (Nat.le_refl _) _
                    have e7 : v6.heap.size < v7.heap.size := by rw [hv7]; simp
                    have f7 : wr.heap.size ≤ v6.heap.size := (unhide hbw).size
                    have hX : Hid (v7.heap[X]? = some (.cells #[] 32 (0, 0))) := (b7.block _ (by omega)).trans (unhide hX)
                    have zX : X < v7.heap.size := Nat.lt_of_lt_of_le zX b7.size
                    have zE : E < v7.heap.size := Nat.lt_of_lt_of_le zE b7.size
                    have hbw := hide ((unhide hbw).trans (b7.mono (unhide hbw).size))
                    have p0 := cell_later b7 p0
                    have p1 := cell_later b7 p1
                    have hT : v7.cell? ⟨v6.heap.size, 0, none⟩ = some (.slice (some ⟨E, 0, none⟩) 0 0) := by rw [hv7]; simp [go_sem]
                    have nXT : X ≠ v6.heap.size := by omega
                    have nET : E ≠ v6.heap.size := by omega
                    rw [← hv7]
                    obtain ⟨T, hTe⟩ : ∃ z, z = v6.heap.size := ⟨_, rfl⟩
                    rw [← hTe] at hT nXT nET ⊢
                    have zT : T < v7.heap.size := by omega
                    have yT : wr.heap.size ≤ T := by omega
                    clear hv7 b7 e7 f7 hTe
                    refine hK.out _ _ ?_ (fun hHeld => ?_)
                    · exact ⟨p0, p1⟩
                    clear hK K
                    try simp only [List.getElem_toArray, List.getElem_cons_succ, List.getElem_cons_zero, Act.put, List.setIfInBounds_toArray, List.set_cons_zero, List.set_cons_succ]
                    refine wpAnyH_ready (rs := [5, 10]) (by kernel_rfl) (by simp) ?_
                    refine AllReadyH.cons rfl (fun K hK => ?_) (AllReadyH.cons rfl (fun K hK => ?_) AllReadyH.nil)
                    · apply step_clz_copy (R := 0) (Ls := Ls) (base := wr.heap.size)
                      case hgd => rfl
                      case ho => rfl
                      case hty => rfl
                      case hs => rfl
                      case hX => exact unhide hX
                      case hbX => exact yX
                      case hbase => exact (unhide hbw).size
                      case hx => rfl
                      case hc => exact (unhide HC0).later (unhide hbw)
                      case hl => omega
                      case' h => intro g5 c5 v5 o5 gr5 at5 lt5
                      have mv5 : Mov X _ v5 := mov_of_grown gr5
                      have hT := mv5.cell hT (by simp only; omega)
                      have zT : T < v5.heap.size := Nat.lt_of_lt_of_le zT mv5.size
                      have zE : E < v5.heap.size := Nat.lt_of_lt_of_le zE mv5.size
                      have p0 := mv5.cell p0 (by simp only; omega)
                      have p1 := mv5.cell p1 (by simp only; omega)
                      have hbw := hide ((unhide hbw).trans (mv5.below yX (unhide hbw).size))
                      have hO := hide o5
                      have zO := lt5
                      have yg5 : wr.heap.size ≤ g5 := own_base o5
                      have ng5T : g5 ≠ T := by rcases at5 with e | e <;> omega
                      have ng5E : g5 ≠ E := by rcases at5 with e | e <;> omega
                      clear o5 gr5 at5 lt5 mv5 hX zX yX
                      refine hK.out _ _ ?_ (fun hHeld => ?_)
                      · exact ⟨p0, p1⟩
                      clear hK K
                      try simp only [List.getElem_toArray, List.getElem_cons_succ, List.getElem_cons_zero, Act.put, List.setIfInBounds_toArray, List.set_cons_zero, List.set_cons_succ]
                      refine wpAnyH_ready (rs := [8, 10]) (by kernel_rfl) (by simp) ?_
                      refine AllReadyH.cons rfl (fun K hK => ?_) (AllReadyH.cons rfl (fun K hK => ?_) AllReadyH.nil)
                      · apply step_clz_one (Ls := Ls) (q := ⟨E, 0, []⟩) (base := wr.heap.size)
                        case hgd => rfl
                        case ho => rfl
                        case hty => rfl
                        case hs => rfl
                        case hown => exact unhide hO
                        case hbase => exact (unhide hbw).size
                        case hx => rfl
                        case hT => exact hT
                        case hl => omega
                        case' h => intro g8 c8 v8 o8 gr8 at8 lt8
                        have mv8 : Mov g5 _ v8 := mov_of_grown gr8
                        have zE : E < v8.heap.size := Nat.lt_of_lt_of_le zE mv8.size
                        have p0 := mv8.cell p0 (by simp only; omega)
                        have p1 := mv8.cell p1 (by simp only; omega)
                        have hbw := hide ((unhide hbw).trans (mv8.below yg5 (unhide hbw).size))
                        have hF := hide o8
                        have zF := lt8
                        clear o8 gr8 at8 lt8 mv8 hO zO hT zT
                        refine hK.out _ _ ?_ (fun hHeld => ?_)
                        · exact ⟨p0, p1⟩
                        clear hK K
                        try simp only [List.getElem_toArray, List.getElem_cons_succ, List.getElem_cons_zero, Act.put, List.setIfInBounds_toArray, List.set_cons_zero, List.set_cons_succ]
                        refine wpAnyH_take (i := 9) (v := ?_) rfl (by kernel_rfl) (by kernel_rfl) (by kernel_rfl) (fun _ _ _ h => h) (Or.inl ⟨by rfl, ?_⟩) (by assumption) ?_
                        rotate_left
                        · (intro w hSw; (try dsimp only at hSw); first | (go_simp; done) | (go_simp; with_reducible rfl))
                        try simp only [List.getElem_toArray, List.getElem_cons_succ, List.getElem_cons_zero, Act.put, List.setIfInBounds_toArray, List.set_cons_zero, List.set_cons_succ]
                        refine wpAnyH_ready (rs := [10]) (by kernel_rfl) (by simp) ?_
                        refine AllReadyH.cons rfl (fun K hK => ?_) AllReadyH.nil
                        go_simp
                        obtain ⟨v10, hv10⟩ : ∃ x, x = v8.alloc (.cells #[.int .i64 0, .slice none 0 0] 25) := ⟨_, rfl⟩
                        have b10 : Below v8.heap.size v8 v10 := by rw [hv10]; exact (Below.refl _ _).alloc (Nat.le_refl _) _
                        have e10 : v8.heap.size < v10.heap.size := by rw [hv10]; simp
                        have f10 : wr.heap.size ≤ v8.heap.size := (unhide hbw).size
                        have hF := hide (World.ownsRow.kept (w' := v10) (unhide hF) (grown_below b10) (by simp [Value.ownBlock]))
                        have zF : g8 < v10.heap.size := Nat.lt_of_lt_of_le zF b10.size
                        have zE : E < v10.heap.size := Nat.lt_of_lt_of_le zE b10.size
                        have hbw := hide ((unhide hbw).trans (b10.mono (unhide hbw).size))
                        have p0 := cell_later b10 p0
                        have p1 := cell_later b10 p1
                        have hD0 : v10.cell? ⟨v8.heap.size, 0, none⟩ = some (.int .i64 0) := by rw [hv10]; simp [go_sem]
                        have hD1 : v10.cell? ⟨v8.heap.size, 1, none⟩ = some (.slice none 0 0) := by rw [hv10]; simp [go_sem]
                        have hDf0 : v10.frozen? ⟨v8.heap.size, 0, none⟩ = false := by rw [hv10]; simp [go_sem]
                        have hDf1 : v10.frozen? ⟨v8.heap.size, 1, none⟩ = false := by rw [hv10]; simp [go_sem]
                        have ng8D : g8 ≠ v8.heap.size := by omega
                        have nED : E ≠ v8.heap.size := by omega
                        rw [← hv10]
                        obtain ⟨D, hDe⟩ : ∃ z, z = v8.heap.size := ⟨_, rfl⟩
                        rw [← hDe] at hD0 hD1 hDf0 hDf1 ng8D nED ⊢
                        have zD : D < v10.heap.size := by omega
                        have yD : wr.heap.size ≤ D := by omega
                        clear hv10 b10 e10 f10 hDe
                        refine hK.out _ _ ?_ (fun hHeld => ?_)
                        · exact ⟨p0, p1⟩
                        clear hK K
                        try simp only [List.getElem_toArray, List.getElem_cons_succ, List.getElem_cons_zero, Act.put, List.setIfInBounds_toArray, List.set_cons_zero, List.set_cons_succ]
                        refine wpAnyH_ready (rs := [11]) (by kernel_rfl) (by simp) ?_
                        refine AllReadyH.cons rfl (fun K hK => ?_) AllReadyH.nil
                        go_simp
                        refine hK.out _ _ ?_ (fun hHeld => ?_)
                        · exact ⟨by rw [World.cell?_setCell_other _ _ _ _ (by simp <;> omega), World.cell?_setCell_other _ _ _ _ (by simp <;> omega)]; exact p0, by rw [World.cell?_setCell_other _ _ _ _ (by simp <;> omega), World.cell?_setCell_other _ _ _ _ (by simp <;> omega)]; exact p1⟩
                        clear hK K
                        try simp only [List.getElem_toArray, List.getElem_cons_succ, List.getElem_cons_zero, Act.put, List.setIfInBounds_toArray, List.set_cons_zero, List.set_cons_succ]
                        refine wpAnyH_done (by kernel_rfl) ?_ _
                        have CF : ClzAt v10 0 (.slice (some ⟨g8, 0, none⟩) (Ls.length + 1) c8) (Ls ++ [⟨E, 0, []⟩]) := own_clz (unhide hF) (by have := own_base (unhide hF); omega) (fun q hq => by
                          rcases List.mem_append.1 hq with h | h
                          · exact ((unhide HC0).1 q h).later (unhide hbw)
                          · simp at h; subst h; exact ⟨by simp only; omega, zE, fun i hi => by simp at hi, by simp, fun x hx => by cases hx⟩)
                        have CG : ∀ q, q ∈ Ls ++ [⟨E, 0, []⟩] → q.g ≠ D := fun q hq => by
                          rcases List.mem_append.1 hq with h | h
                          · have := ((unhide HC0).1 q h).2.1; omega
                          · simp at h; subst h; simp only; omega
                        go_wp2_with fail
                        go_meet
                        exact ⟨D, g8, c8, E, rfl, by rw [World.cell?_setCell_other _ _ _ _ (by simp)]; exact World.cell?_setCell_same _ _ _ hD0, World.cell?_setCell_same _ _ _ (by rw [World.cell?_setCell_other _ _ _ _ (by simp)]; exact hD1), (CF.set CG (by simp [Value.ownBlock]; omega)).set CG (by simp [Value.ownBlock]; omega), (((unhide hbw).setCell yD _).setCell yD _)⟩
                      · go_simp
                        obtain ⟨v10, hv10⟩ : ∃ x, x = v5.alloc (.cells #[.int .i64 0, .slice none 0 0] 25) := ⟨_, rfl⟩
                        have b10 : Below v5.heap.size v5 v10 := by rw [hv10]; exact (Below.refl _ _).alloc (Nat.le_refl _) _
                        have e10 : v5.heap.size < v10.heap.size := by rw [hv10]; simp
                        have f10 : wr.heap.size ≤ v5.heap.size := (unhide hbw).size
                        have hO := hide (World.ownsRow.kept (w' := v10) (unhide hO) (grown_below b10) (by simp [Value.ownBlock]))
                        have hT := cell_later b10 hT
                        have zO : g5 < v10.heap.size := Nat.lt_of_lt_of_le zO b10.size
                        have zT : T < v10.heap.size := Nat.lt_of_lt_of_le zT b10.size
                        have zE : E < v10.heap.size := Nat.lt_of_lt_of_le zE b10.size
                        have hbw := hide ((unhide hbw).trans (b10.mono (unhide hbw).size))
                        have p0 := cell_later b10 p0
                        have p1 := cell_later b10 p1
                        have hD0 : v10.cell? ⟨v5.heap.size, 0, none⟩ = some (.int .i64 0) := by rw [hv10]; simp [go_sem]
                        have hD1 : v10.cell? ⟨v5.heap.size, 1, none⟩ = some (.slice none 0 0) := by rw [hv10]; simp [go_sem]
                        have hDf0 : v10.frozen? ⟨v5.heap.size, 0, none⟩ = false := by rw [hv10]; simp [go_sem]
                        have hDf1 : v10.frozen? ⟨v5.heap.size, 1, none⟩ = false := by rw [hv10]; simp [go_sem]
                        have ng5D : g5 ≠ v5.heap.size := by omega
                        have nTD : T ≠ v5.heap.size := by omega
                        have nED : E ≠ v5.heap.size := by omega
                        rw [← hv10]
                        obtain ⟨D, hDe⟩ : ∃ z, z = v5.heap.size := ⟨_, rfl⟩
                        rw [← hDe] at hD0 hD1 hDf0 hDf1 ng5D nTD nED ⊢
                        have zD : D < v10.heap.size := by omega
                        have yD : wr.heap.size ≤ D := by omega
                        clear hv10 b10 e10 f10 hDe
                        refine hK.out _ _ ?_ (fun hHeld => ?_)
                        · exact ⟨p0, p1⟩
                        clear hK K
                        try simp only [List.getElem_toArray, List.getElem_cons_succ, List.getElem_cons_zero, Act.put, List.setIfInBounds_toArray, List.set_cons_zero, List.set_cons_succ]
                        refine wpAnyH_ready (rs := [8]) (by kernel_rfl) (by simp) ?_
                        refine AllReadyH.cons rfl (fun K hK => ?_) AllReadyH.nil
                        apply step_clz_one (Ls := Ls) (q := ⟨E, 0, []⟩) (base := wr.heap.size)
                        case hgd => rfl
                        case ho => rfl
                        case hty => rfl
                        case hs => rfl
                        case hown => exact unhide hO
                        case hbase => exact (unhide hbw).size
                        case hx => rfl
                        case hT => exact hT
                        case hl => omega
                        case' h => intro g8 c8 v8 o8 gr8 at8 lt8
                        have mv8 : Mov g5 _ v8 := mov_of_grown gr8
                        have zE : E < v8.heap.size := Nat.lt_of_lt_of_le zE mv8.size
                        have hD0 := mv8.cell hD0 (by simp only; omega)
                        have hD1 := mv8.cell hD1 (by simp only; omega)
                        have hDf0 := (World.frozen?_of_block (w := v10) (a := ⟨D, 0, none⟩) (mv8.2.2.2.2 D zD (by omega))).trans hDf0
                        have hDf1 := (World.frozen?_of_block (w := v10) (a := ⟨D, 1, none⟩) (mv8.2.2.2.2 D zD (by omega))).trans hDf1
                        have zD : D < v8.heap.size := Nat.lt_of_lt_of_le zD mv8.size
                        have p0 := mv8.cell p0 (by simp only; omega)
                        have p1 := mv8.cell p1 (by simp only; omega)
                        have hbw := hide ((unhide hbw).trans (mv8.below yg5 (unhide hbw).size))
                        have hF := hide o8
                        have zF := lt8
                        have ng8D : g8 ≠ D := by rcases at8 with e | e <;> omega
                        clear o8 gr8 at8 lt8 mv8 hO zO hT zT
                        refine hK.out _ _ ?_ (fun hHeld => ?_)
                        · exact ⟨p0, p1⟩
                        clear hK K
                        try simp only [List.getElem_toArray, List.getElem_cons_succ, List.getElem_cons_zero, Act.put, List.setIfInBounds_toArray, List.set_cons_zero, List.set_cons_succ]
                        refine wpAnyH_take (i := 9) (v := ?_) rfl (by kernel_rfl) (by kernel_rfl) (by kernel_rfl) (fun _ _ _ h => h) (Or.inl ⟨by rfl, ?_⟩) (by assumption) ?_
                        rotate_left
                        · (intro w hSw; (try dsimp only at hSw); first | (go_simp; done) | (go_simp; with_reducible rfl))
                        try simp only [List.getElem_toArray, List.getElem_cons_succ, List.getElem_cons_zero, Act.put, List.setIfInBounds_toArray, List.set_cons_zero, List.set_cons_succ]
                        refine wpAnyH_ready (rs := [11]) (by kernel_rfl) (by simp) ?_
                        refine AllReadyH.cons rfl (fun K hK => ?_) AllReadyH.nil
                        go_simp
                        refine hK.out _ _ ?_ (fun hHeld => ?_)
                        · exact ⟨by rw [World.cell?_setCell_other _ _ _ _ (by simp <;> omega), World.cell?_setCell_other _ _ _ _ (by simp <;> omega)]; exact p0, by rw [World.cell?_setCell_other _ _ _ _ (by simp <;> omega), World.cell?_setCell_other _ _ _ _ (by simp <;> omega)]; exact p1⟩
                        clear hK K
                        try simp only [List.getElem_toArray, List.getElem_cons_succ, List.getElem_cons_zero, Act.put, List.setIfInBounds_toArray, List.set_cons_zero, List.set_cons_succ]
                        refine wpAnyH_done (by kernel_rfl) ?_ _
                        have CF : ClzAt v8 0 (.slice (some ⟨g8, 0, none⟩) (Ls.length + 1) c8) (Ls ++ [⟨E, 0, []⟩]) := own_clz (unhide hF) (by have := own_base (unhide hF); omega) (fun q hq => by
                          rcases List.mem_append.1 hq with h | h
                          · exact ((unhide HC0).1 q h).later (unhide hbw)
                          · simp at h; subst h; exact ⟨by simp only; omega, zE, fun i hi => by simp at hi, by simp, fun x hx => by cases hx⟩)
                        have CG : ∀ q, q ∈ Ls ++ [⟨E, 0, []⟩] → q.g ≠ D := fun q hq => by
                          rcases List.mem_append.1 hq with h | h
                          · have := ((unhide HC0).1 q h).2.1; omega
                          · simp at h; subst h; simp only; omega
                        go_wp2_with fail
                        go_meet
                        exact ⟨D, g8, c8, E, rfl, by rw [World.cell?_setCell_other _ _ _ _ (by simp)]; exact World.cell?_setCell_same _ _ _ hD0, World.cell?_setCell_same _ _ _ (by rw [World.cell?_setCell_other _ _ _ _ (by simp)]; exact hD1), (CF.set CG (by simp [Value.ownBlock]; omega)).set CG (by simp [Value.ownBlock]; omega), (((unhide hbw).setCell yD _).setCell yD _)⟩
                    · go_simp
                      obtain ⟨v10, hv10⟩ : ∃ x, x = v7.alloc (.cells #[.int .i64 0, .slice none 0 0] 25) := ⟨_, rfl⟩
                      have b10 : Below v7.heap.size v7 v10 := by rw [hv10]; exact (Below.refl _ _).alloc (Nat.le_refl _) _
                      have e10 : v7.heap.size < v10.heap.size := by rw [hv10]; simp
                      have f10 : wr.heap.size ≤ v7.heap.size := (unhide hbw).size
                      have hX : Hid (v10.heap[X]? = some (.cells #[] 32 (0, 0))) := (b10.block _ (by omega)).trans (unhide hX)
                      have hT := cell_later b10 hT
                      have zX : X < v10.heap.size := Nat.lt_of_lt_of_le zX b10.size
                      have zT : T < v10.heap.size := Nat.lt_of_lt_of_le zT b10.size
                      have zE : E < v10.heap.size := Nat.lt_of_lt_of_le zE b10.size
                      have hbw := hide ((unhide hbw).trans (b10.mono (unhide hbw).size))
                      have p0 := cell_later b10 p0
                      have p1 := cell_later b10 p1
                      have hD0 : v10.cell? ⟨v7.heap.size, 0, none⟩ = some (.int .i64 0) := by rw [hv10]; simp [go_sem]
                      have hD1 : v10.cell? ⟨v7.heap.size, 1, none⟩ = some (.slice none 0 0) := by rw [hv10]; simp [go_sem]
                      have hDf0 : v10.frozen? ⟨v7.heap.size, 0, none⟩ = false := by rw [hv10]; simp [go_sem]
                      have hDf1 : v10.frozen? ⟨v7.heap.size, 1, none⟩ = false := by rw [hv10]; simp [go_sem]
                      have nXD : X ≠ v7.heap.size := by omega
                      have nTD : T ≠ v7.heap.size := by omega
                      have nED : E ≠ v7.heap.size := by omega
                      rw [← hv10]
                      obtain ⟨D, hDe⟩ : ∃ z, z = v7.heap.size := ⟨_, rfl⟩
                      rw [← hDe] at hD0 hD1 hDf0 hDf1 nXD nTD nED ⊢
                      have zD : D < v10.heap.size := by omega
                      have yD : wr.heap.size ≤ D := by omega
                      clear hv10 b10 e10 f10 hDe
                      refine hK.out _ _ ?_ (fun hHeld => ?_)
                      · exact ⟨p0, p1⟩
                      clear hK K
                      try simp only [List.getElem_toArray, List.getElem_cons_succ, List.getElem_cons_zero, Act.put, List.setIfInBounds_toArray, List.set_cons_zero, List.set_cons_succ]
                      refine wpAnyH_ready (rs := [5]) (by kernel_rfl) (by simp) ?_
                      refine AllReadyH.cons rfl (fun K hK => ?_) AllReadyH.nil
                      apply step_clz_copy (R := 0) (Ls := Ls) (base := wr.heap.size)
                      case hgd => rfl
                      case ho => rfl
                      case hty => rfl
                      case hs => rfl
                      case hX => exact unhide hX
                      case hbX => exact yX
                      case hbase => exact (unhide hbw).size
                      case hx => rfl
                      case hc => exact (unhide HC0).later (unhide hbw)
                      case hl => omega
                      case' h => intro g5 c5 v5 o5 gr5 at5 lt5
                      have mv5 : Mov X _ v5 := mov_of_grown gr5
                      have hT := mv5.cell hT (by simp only; omega)
                      have zT : T < v5.heap.size := Nat.lt_of_lt_of_le zT mv5.size
                      have zE : E < v5.heap.size := Nat.lt_of_lt_of_le zE mv5.size
                      have hD0 := mv5.cell hD0 (by simp only; omega)
                      have hD1 := mv5.cell hD1 (by simp only; omega)
                      have hDf0 := (World.frozen?_of_block (w := v10) (a := ⟨D, 0, none⟩) (mv5.2.2.2.2 D zD (by omega))).trans hDf0
                      have hDf1 := (World.frozen?_of_block (w := v10) (a := ⟨D, 1, none⟩) (mv5.2.2.2.2 D zD (by omega))).trans hDf1
                      have zD : D < v5.heap.size := Nat.lt_of_lt_of_le zD mv5.size
                      have p0 := mv5.cell p0 (by simp only; omega)
                      have p1 := mv5.cell p1 (by simp only; omega)
                      have hbw := hide ((unhide hbw).trans (mv5.below yX (unhide hbw).size))
                      have hO := hide o5
                      have zO := lt5
                      have yg5 : wr.heap.size ≤ g5 := own_base o5
                      have ng5T : g5 ≠ T := by rcases at5 with e | e <;> omega
                      have ng5E : g5 ≠ E := by rcases at5 with e | e <;> omega
                      have ng5D : g5 ≠ D := by rcases at5 with e | e <;> omega
                      clear o5 gr5 at5 lt5 mv5 hX zX yX
                      refine hK.out _ _ ?_ (fun hHeld => ?_)
                      · exact ⟨p0, p1⟩
                      clear hK K
                      try simp only [List.getElem_toArray, List.getElem_cons_succ, List.getElem_cons_zero, Act.put, List.setIfInBounds_toArray, List.set_cons_zero, List.set_cons_succ]
                      refine wpAnyH_ready (rs := [8]) (by kernel_rfl) (by simp) ?_
                      refine AllReadyH.cons rfl (fun K hK => ?_) AllReadyH.nil
                      apply step_clz_one (Ls := Ls) (q := ⟨E, 0, []⟩) (base := wr.heap.size)
                      case hgd => rfl
                      case ho => rfl
                      case hty => rfl
                      case hs => rfl
                      case hown => exact unhide hO
                      case hbase => exact (unhide hbw).size
                      case hx => rfl
                      case hT => exact hT
                      case hl => omega
                      case' h => intro g8 c8 v8 o8 gr8 at8 lt8
                      have mv8 : Mov g5 _ v8 := mov_of_grown gr8
                      have zE : E < v8.heap.size := Nat.lt_of_lt_of_le zE mv8.size
                      have hD0 := mv8.cell hD0 (by simp only; omega)
                      have hD1 := mv8.cell hD1 (by simp only; omega)
                      have hDf0 := (World.frozen?_of_block (w := v5) (a := ⟨D, 0, none⟩) (mv8.2.2.2.2 D zD (by omega))).trans hDf0
                      have hDf1 := (World.frozen?_of_block (w := v5) (a := ⟨D, 1, none⟩) (mv8.2.2.2.2 D zD (by omega))).trans hDf1
                      have zD : D < v8.heap.size := Nat.lt_of_lt_of_le zD mv8.size
                      have p0 := mv8.cell p0 (by simp only; omega)
                      have p1 := mv8.cell p1 (by simp only; omega)
                      have hbw := hide ((unhide hbw).trans (mv8.below yg5 (unhide hbw).size))
                      have hF := hide o8
                      have zF := lt8
                      have ng8D : g8 ≠ D := by rcases at8 with e | e <;> omega
                      clear o8 gr8 at8 lt8 mv8 hO zO hT zT
                      refine hK.out _ _ ?_ (fun hHeld => ?_)
                      · exact ⟨p0, p1⟩
                      clear hK K
                      try simp only [List.getElem_toArray, List.getElem_cons_succ, List.getElem_cons_zero, Act.put, List.setIfInBounds_toArray, List.set_cons_zero, List.set_cons_succ]
                      refine wpAnyH_take (i := 9) (v := ?_) rfl (by kernel_rfl) (by kernel_rfl) (by kernel_rfl) (fun _ _ _ h => h) (Or.inl ⟨by rfl, ?_⟩) (by assumption) ?_
                      rotate_left
                      · (intro w hSw; (try dsimp only at hSw); first | (go_simp; done) | (go_simp; with_reducible rfl))
                      try simp only [List.getElem_toArray, List.getElem_cons_succ, List.getElem_cons_zero, Act.put, List.setIfInBounds_toArray, List.set_cons_zero, List.set_cons_succ]
                      refine wpAnyH_ready (rs := [11]) (by kernel_rfl) (by simp) ?_
                      refine AllReadyH.cons rfl (fun K hK => ?_) AllReadyH.nil
                      go_simp
                      refine hK.out _ _ ?_ (fun hHeld => ?_)
                      · exact ⟨by rw [World.cell?_setCell_other _ _ _ _ (by simp <;> omega), World.cell?_setCell_other _ _ _ _ (by simp <;> omega)]; exact p0, by rw [World.cell?_setCell_other _ _ _ _ (by simp <;> omega), World.cell?_setCell_other _ _ _ _ (by simp <;> omega)]; exact p1⟩
                      clear hK K
                      try simp only [List.getElem_toArray, List.getElem_cons_succ, List.getElem_cons_zero, Act.put, List.setIfInBounds_toArray, List.set_cons_zero, List.set_cons_succ]
                      refine wpAnyH_done (by kernel_rfl) ?_ _
                      have CF : ClzAt v8 0 (.slice (some ⟨g8, 0, none⟩) (Ls.length + 1) c8) (Ls ++ [⟨E, 0, []⟩]) := own_clz (unhide hF) (by have := own_base (unhide hF); omega) (fun q hq => by
                        rcases List.mem_append.1 hq with h | h
                        · exact ((unhide HC0).1 q h).later (unhide hbw)
                        · simp at h; subst h; exact ⟨by simp only; omega, zE, fun i hi => by simp at hi, by simp, fun x hx => by cases hx⟩)
                      have CG : ∀ q, q ∈ Ls ++ [⟨E, 0, []⟩] → q.g ≠ D := fun q hq => by
                        rcases List.mem_append.1 hq with h | h
                        · have := ((unhide HC0).1 q h).2.1; omega
                        · simp at h; subst h; simp only; omega
                      go_wp2_with fail
                      go_meet
                      exact ⟨D, g8, c8, E, rfl, by rw [World.cell?_setCell_other _ _ _ _ (by simp)]; exact World.cell?_setCell_same _ _ _ hD0, World.cell?_setCell_same _ _ _ (by rw [World.cell?_setCell_other _ _ _ _ (by simp)]; exact hD1), (CF.set CG (by simp [Value.ownBlock]; omega)).set CG (by simp [Value.ownBlock]; omega), (((unhide hbw).setCell yD _).setCell yD _)⟩
                  · go_simp
                    obtain ⟨v10, hv10⟩ : ∃ x, x = v6.alloc (.cells #[.int .i64 0, .slice none 0 0] 25) := ⟨_, rfl⟩
                    have b10 : Below v6.heap.size v6 v10 := by rw [hv10]; exact (Below.refl _ _).alloc (Nat.le_refl _) _
                    have e10 : v6.heap.size < v10.heap.size := by rw [hv10]; simp
                    have f10 : wr.heap.size ≤ v6.heap.size := (unhide hbw).size
                    have hX : Hid (v10.heap[X]? = some (.cells #[] 32 (0, 0))) := (b10.block _ (by omega)).trans (unhide hX)
                    have zX : X < v10.heap.size := Nat.lt_of_lt_of_le zX b10.size
                    have zE : E < v10.heap.size := Nat.lt_of_lt_of_le zE b10.size
                    have hbw := hide ((unhide hbw).trans (b10.mono (unhide hbw).size))
                    have p0 := cell_later b10 p0
                    have p1 := cell_later b10 p1
                    have hD0 : v10.cell? ⟨v6.heap.size, 0, none⟩ = some (.int .i64 0) := by rw [hv10]; simp [go_sem]
                    have hD1 : v10.cell? ⟨v6.heap.size, 1, none⟩ = some (.slice none 0 0) := by rw [hv10]; simp [go_sem]
                    have hDf0 : v10.frozen? ⟨v6.heap.size, 0, none⟩ = false := by rw [hv10]; simp [go_sem]
                    have hDf1 : v10.frozen? ⟨v6.heap.size, 1, none⟩ = false := by rw [hv10]; simp [go_sem]
                    have nXD : X ≠ v6.heap.size := by omega
                    have nED : E ≠ v6.heap.size := by omega
                    rw [← hv10]
                    obtain ⟨D, hDe⟩ : ∃ z, z = v6.heap.size := ⟨_, rfl⟩
                    rw [← hDe] at hD0 hD1 hDf0 hDf1 nXD nED ⊢
                    have zD : D < v10.heap.size := by omega
                    have yD : wr.heap.size ≤ D := by omega
                    clear hv10 b10 e10 f10 hDe
                    refine hK.out _ _ ?_ (fun hHeld => ?_)
                    · exact ⟨p0, p1⟩
                    clear hK K
                    try simp only [List.getElem_toArray, List.getElem_cons_succ, List.getElem_cons_zero, Act.put, List.setIfInBounds_toArray, List.set_cons_zero, List.set_cons_succ]
                    refine wpAnyH_ready (rs := [5, 7]) (by kernel_rfl) (by simp) ?_
                    refine AllReadyH.cons rfl (fun K hK => ?_) (AllReadyH.cons rfl (fun K hK => ?_) AllReadyH.nil)
                    · apply step_clz_copy (R := 0) (Ls := Ls) (base := wr.heap.size)
                      case hgd => rfl
                      case ho => rfl
                      case hty => rfl
                      case hs => rfl
                      case hX => exact unhide hX
                      case hbX => exact yX
                      case hbase => exact (unhide hbw).size
                      case hx => rfl
                      case hc => exact (unhide HC0).later (unhide hbw)
                      case hl => omega
                      case' h => intro g5 c5 v5 o5 gr5 at5 lt5
                      have mv5 : Mov X _ v5 := mov_of_grown gr5
                      have zE : E < v5.heap.size := Nat.lt_of_lt_of_le zE mv5.size
                      have hD0 := mv5.cell hD0 (by simp only; omega)
                      have hD1 := mv5.cell hD1 (by simp only; omega)
                      have hDf0 := (World.frozen?_of_block (w := v10) (a := ⟨D, 0, none⟩) (mv5.2.2.2.2 D zD (by omega))).trans hDf0
                      have hDf1 := (World.frozen?_of_block (w := v10) (a := ⟨D, 1, none⟩) (mv5.2.2.2.2 D zD (by omega))).trans hDf1
                      have zD : D < v5.heap.size := Nat.lt_of_lt_of_le zD mv5.size
                      have p0 := mv5.cell p0 (by simp only; omega)
                      have p1 := mv5.cell p1 (by simp only; omega)
                      have hbw := hide ((unhide hbw).trans (mv5.below yX (unhide hbw).size))
                      have hO := hide o5
                      have zO := lt5
                      have yg5 : wr.heap.size ≤ g5 := own_base o5
                      have ng5E : g5 ≠ E := by rcases at5 with e | e <;> omega
                      have ng5D : g5 ≠ D := by rcases at5 with e | e <;> omega
                      clear o5 gr5 at5 lt5 mv5 hX zX yX
                      refine hK.out _ _ ?_ (fun hHeld => ?_)
                      · exact ⟨p0, p1⟩
                      clear hK K
                      try simp only [List.getElem_toArray, List.getElem_cons_succ, List.getElem_cons_zero, Act.put, List.setIfInBounds_toArray, List.set_cons_zero, List.set_cons_succ]
                      refine wpAnyH_ready (rs := [7]) (by kernel_rfl) (by simp) ?_
                      refine AllReadyH.cons rfl (fun K hK => ?_) AllReadyH.nil
                      go_simp
                      obtain ⟨v7, hv7⟩ : ∃ x, x = v5.alloc (.cells #[.slice (some ⟨E, 0, none⟩) 0 0] 32) := ⟨_, rfl⟩
                      have b7 : Below v5.heap.size v5 v7 := by rw [hv7]; exact (Below.refl _ _).alloc (Nat.le_refl _) _
                      have e7 : v5.heap.size < v7.heap.size := by rw [hv7]; simp
                      have f7 : wr.heap.size ≤ v5.heap.size := (unhide hbw).size
                      have hO := hide (World.ownsRow.kept (w' := v7) (unhide hO) (grown_below b7) (by simp [Value.ownBlock]))
                      have hD0 := cell_later b7 hD0
                      have hD1 := cell_later b7 hD1
                      have hDf0 := (b7.frozen (p := ⟨D, 0, none⟩) zD).trans hDf0
                      have hDf1 := (b7.frozen (p := ⟨D, 1, none⟩) zD).trans hDf1
                      have zO : g5 < v7.heap.size := Nat.lt_of_lt_of_le zO b7.size
                      have zE : E < v7.heap.size := Nat.lt_of_lt_of_le zE b7.size
                      have zD : D < v7.heap.size := Nat.lt_of_lt_of_le zD b7.size
                      have hbw := hide ((unhide hbw).trans (b7.mono (unhide hbw).size))
                      have p0 := cell_later b7 p0
                      have p1 := cell_later b7 p1
                      have hT : v7.cell? ⟨v5.heap.size, 0, none⟩ = some (.slice (some ⟨E, 0, none⟩) 0 0) := by rw [hv7]; simp [go_sem]
                      have ng5T : g5 ≠ v5.heap.size := by omega
                      have nET : E ≠ v5.heap.size := by omega
                      have nDT : D ≠ v5.heap.size := by omega
                      rw [← hv7]
                      obtain ⟨T, hTe⟩ : ∃ z, z = v5.heap.size := ⟨_, rfl⟩
                      rw [← hTe] at hT ng5T nET nDT ⊢
                      have zT : T < v7.heap.size := by omega
                      have yT : wr.heap.size ≤ T := by omega
                      clear hv7 b7 e7 f7 hTe
                      refine hK.out _ _ ?_ (fun hHeld => ?_)
                      · exact ⟨p0, p1⟩
                      clear hK K
                      try simp only [List.getElem_toArray, List.getElem_cons_succ, List.getElem_cons_zero, Act.put, List.setIfInBounds_toArray, List.set_cons_zero, List.set_cons_succ]
                      refine wpAnyH_ready (rs := [8]) (by kernel_rfl) (by simp) ?_
                      refine AllReadyH.cons rfl (fun K hK => ?_) AllReadyH.nil
                      apply step_clz_one (Ls := Ls) (q := ⟨E, 0, []⟩) (base := wr.heap.size)
                      case hgd => rfl
                      case ho => rfl
                      case hty => rfl
                      case hs => rfl
                      case hown => exact unhide hO
                      case hbase => exact (unhide hbw).size
                      case hx => rfl
                      case hT => exact hT
                      case hl => omega
                      case' h => intro g8 c8 v8 o8 gr8 at8 lt8
                      have mv8 : Mov g5 _ v8 := mov_of_grown gr8
                      have zE : E < v8.heap.size := Nat.lt_of_lt_of_le zE mv8.size
                      have hD0 := mv8.cell hD0 (by simp only; omega)
                      have hD1 := mv8.cell hD1 (by simp only; omega)
                      have hDf0 := (World.frozen?_of_block (w := v7) (a := ⟨D, 0, none⟩) (mv8.2.2.2.2 D zD (by omega))).trans hDf0
                      have hDf1 := (World.frozen?_of_block (w := v7) (a := ⟨D, 1, none⟩) (mv8.2.2.2.2 D zD (by omega))).trans hDf1
                      have zD : D < v8.heap.size := Nat.lt_of_lt_of_le zD mv8.size
                      have p0 := mv8.cell p0 (by simp only; omega)
                      have p1 := mv8.cell p1 (by simp only; omega)
                      have hbw := hide ((unhide hbw).trans (mv8.below yg5 (unhide hbw).size))
                      have hF := hide o8
                      have zF := lt8
                      have ng8D : g8 ≠ D := by rcases at8 with e | e <;> omega
                      clear o8 gr8 at8 lt8 mv8 hO zO hT zT
                      refine hK.out _ _ ?_ (fun hHeld => ?_)
                      · exact ⟨p0, p1⟩
                      clear hK K
                      try simp only [List.getElem_toArray, List.getElem_cons_succ, List.getElem_cons_zero, Act.put, List.setIfInBounds_toArray, List.set_cons_zero, List.set_cons_succ]
                      refine wpAnyH_take (i := 9) (v := ?_) rfl (by kernel_rfl) (by kernel_rfl) (by kernel_rfl) (fun _ _ _ h => h) (Or.inl ⟨by rfl, ?_⟩) (by assumption) ?_
                      rotate_left
                      · (intro w hSw; (try dsimp only at hSw); first | (go_simp; done) | (go_simp; with_reducible rfl))
                      try simp only [List.getElem_toArray, List.getElem_cons_succ, List.getElem_cons_zero, Act.put, List.setIfInBounds_toArray, List.set_cons_zero, List.set_cons_succ]
                      refine wpAnyH_ready (rs := [11]) (by kernel_rfl) (by simp) ?_
                      refine AllReadyH.cons rfl (fun K hK => ?_) AllReadyH.nil
                      go_simp
                      refine hK.out _ _ ?_ (fun hHeld => ?_)
                      · exact ⟨by rw [World.cell?_setCell_other _ _ _ _ (by simp <;> omega), World.cell?_setCell_other _ _ _ _ (by simp <;> omega)]; exact p0, by rw [World.cell?_setCell_other _ _ _ _ (by simp <;> omega), World.cell?_setCell_other _ _ _ _ (by simp <;> omega)]; exact p1⟩
                      clear hK K
                      try simp only [List.getElem_toArray, List.getElem_cons_succ, List.getElem_cons_zero, Act.put, List.setIfInBounds_toArray, List.set_cons_zero, List.set_cons_succ]
                      refine wpAnyH_done (by kernel_rfl) ?_ _
                      have CF : ClzAt v8 0 (.slice (some ⟨g8, 0, none⟩) (Ls.length + 1) c8) (Ls ++ [⟨E, 0, []⟩]) := own_clz (unhide hF) (by have := own_base (unhide hF); omega) (fun q hq => by
                        rcases List.mem_append.1 hq with h | h
                        · exact ((unhide HC0).1 q h).later (unhide hbw)
                        · simp at h; subst h; exact ⟨by simp only; omega, zE, fun i hi => by simp at hi, by simp, fun x hx => by cases hx⟩)
                      have CG : ∀ q, q ∈ Ls ++ [⟨E, 0, []⟩] → q.g ≠ D := fun q hq => by
                        rcases List.mem_append.1 hq with h | h
                        · have := ((unhide HC0).1 q h).2.1; omega
                        · simp at h; subst h; simp only; omega
                      go_wp2_with fail
                      go_meet
                      exact ⟨D, g8, c8, E, rfl, by rw [World.cell?_setCell_other _ _ _ _ (by simp)]; exact World.cell?_setCell_same _ _ _ hD0, World.cell?_setCell_same _ _ _ (by rw [World.cell?_setCell_other _ _ _ _ (by simp)]; exact hD1), (CF.set CG (by simp [Value.ownBlock]; omega)).set CG (by simp [Value.ownBlock]; omega), (((unhide hbw).setCell yD _).setCell yD _)⟩
                    · go_simp
                      obtain ⟨v7, hv7⟩ : ∃ x, x = v10.alloc (.cells #[.slice (some ⟨E, 0, none⟩) 0 0] 32) := ⟨_, rfl⟩
                      have b7 : Below v10.heap.size v10 v7 := by rw [hv7]; exact (Below.refl _ _).alloc (Nat.le_refl _) _
                      have e7 : v10.heap.size < v7.heap.size := by rw [hv7]; simp
                      have f7 : wr.heap.size ≤ v10.heap.size := (unhide hbw).size
                      have hX : Hid (v7.heap[X]? = some (.cells #[] 32 (0, 0))) := (b7.block _ (by omega)).trans (unhide hX)
                      have hD0 := cell_later b7 hD0
                      have hD1 := cell_later b7 hD1
                      have hDf0 := (b7.frozen (p := ⟨D, 0, none⟩) zD).trans hDf0
                      have hDf1 := (b7.frozen (p := ⟨D, 1, none⟩) zD).trans hDf1
                      have zX : X < v7.heap.size := Nat.lt_of_lt_of_le zX b7.size
                      have zE : E < v7.heap.size := Nat.lt_of_lt_of_le zE b7.size
                      have zD : D < v7.heap.size := Nat.lt_of_lt_of_le zD b7.size
                      have hbw := hide ((unhide hbw).trans (b7.mono (unhide hbw).size))
                      have p0 := cell_later b7 p0
                      have p1 := cell_later b7 p1
                      have hT : v7.cell? ⟨v10.heap.size, 0, none⟩ = some (.slice (some ⟨E, 0, none⟩) 0 0) := by rw [hv7]; simp [go_sem]
                      have nXT : X ≠ v10.heap.size := by omega
                      have nET : E ≠ v10.heap.size := by omega
                      have nDT : D ≠ v10.heap.size := by omega
                      rw [← hv7]
                      obtain ⟨T, hTe⟩ : ∃ z, z = v10.heap.size := ⟨_, rfl⟩
                      rw [← hTe] at hT nXT nET nDT ⊢
                      have zT : T < v7.heap.size := by omega
                      have yT : wr.heap.size ≤ T := by omega
                      clear hv7 b7 e7 f7 hTe
                      refine hK.out _ _ ?_ (fun hHeld => ?_)
                      · exact ⟨p0, p1⟩
                      clear hK K
                      try simp only [List.getElem_toArray, List.getElem_cons_succ, List.getElem_cons_zero, Act.put, List.setIfInBounds_toArray, List.set_cons_zero, List.set_cons_succ]
                      refine wpAnyH_ready (rs := [5]) (by kernel_rfl) (by simp) ?_
                      refine AllReadyH.cons rfl (fun K hK => ?_) AllReadyH.nil
                      apply step_clz_copy (R := 0) (Ls := Ls) (base := wr.heap.size)
                      case hgd => rfl
                      case ho => rfl
                      case hty => rfl
                      case hs => rfl
                      case hX => exact unhide hX
                      case hbX => exact yX
                      case hbase => exact (unhide hbw).size
                      case hx => rfl
                      case hc => exact (unhide HC0).later (unhide hbw)
                      case hl => omega
                      case' h => intro g5 c5 v5 o5 gr5 at5 lt5
                      have mv5 : Mov X _ v5 := mov_of_grown gr5
                      have hT := mv5.cell hT (by simp only; omega)
                      have zT : T < v5.heap.size := Nat.lt_of_lt_of_le zT mv5.size
                      have zE : E < v5.heap.size := Nat.lt_of_lt_of_le zE mv5.size
                      have hD0 := mv5.cell hD0 (by simp only; omega)
                      have hD1 := mv5.cell hD1 (by simp only; omega)
                      have hDf0 := (World.frozen?_of_block (w := v7) (a := ⟨D, 0, none⟩) (mv5.2.2.2.2 D zD (by omega))).trans hDf0
                      have hDf1 := (World.frozen?_of_block (w := v7) (a := ⟨D, 1, none⟩) (mv5.2.2.2.2 D zD (by omega))).trans hDf1
                      have zD : D < v5.heap.size := Nat.lt_of_lt_of_le zD mv5.size
                      have p0 := mv5.cell p0 (by simp only; omega)
                      have p1 := mv5.cell p1 (by simp only; omega)
                      have hbw := hide ((unhide hbw).trans (mv5.below yX (unhide hbw).size))
                      have hO := hide o5
                      have zO := lt5
                      have yg5 : wr.heap.size ≤ g5 := own_base o5
                      have ng5T : g5 ≠ T := by rcases at5 with e | e <;> omega
                      have ng5E : g5 ≠ E := by rcases at5 with e | e <;> omega
                      have ng5D : g5 ≠ D := by rcases at5 with e | e <;> omega
                      clear o5 gr5 at5 lt5 mv5 hX zX yX
                      refine hK.out _ _ ?_ (fun hHeld => ?_)
                      · exact ⟨p0, p1⟩
                      clear hK K
                      try simp only [List.getElem_toArray, List.getElem_cons_succ, List.getElem_cons_zero, Act.put, List.setIfInBounds_toArray, List.set_cons_zero, List.set_cons_succ]
                      refine wpAnyH_ready (rs := [8]) (by kernel_rfl) (by simp) ?_
                      refine AllReadyH.cons rfl (fun K hK => ?_) AllReadyH.nil
                      apply step_clz_one (Ls := Ls) (q := ⟨E, 0, []⟩) (base := wr.heap.size)
                      case hgd => rfl
                      case ho => rfl
                      case hty => rfl
                      case hs => rfl
                      case hown => exact unhide hO
                      case hbase => exact (unhide hbw).size
                      case hx => rfl
                      case hT => exact hT
                      case hl => omega
                      case' h => intro g8 c8 v8 o8 gr8 at8 lt8
                      have mv8 : Mov g5 _ v8 := mov_of_grown gr8
                      have zE : E < v8.heap.size := Nat.lt_of_lt_of_le zE mv8.size
                      have hD0 := mv8.cell hD0 (by simp only; omega)
                      have hD1 := mv8.cell hD1 (by simp only; omega)
                      have hDf0 := (World.frozen?_of_block (w := v5) (a := ⟨D, 0, none⟩) (mv8.2.2.2.2 D zD (by omega))).trans hDf0
                      have hDf1 := (World.frozen?_of_block (w := v5) (a := ⟨D, 1, none⟩) (mv8.2.2.2.2 D zD (by omega))).trans hDf1
                      have zD : D < v8.heap.size := Nat.lt_of_lt_of_le zD mv8.size
                      have p0 := mv8.cell p0 (by simp only; omega)
                      have p1 := mv8.cell p1 (by simp only; omega)
                      have hbw := hide ((unhide hbw).trans (mv8.below yg5 (unhide hbw).size))
                      have hF := hide o8
                      have zF := lt8
                      have ng8D : g8 ≠ D := by rcases at8 with e | e <;> omega
                      clear o8 gr8 at8 lt8 mv8 hO zO hT zT
                      refine hK.out _ _ ?_ (fun hHeld => ?_)
                      · exact ⟨p0, p1⟩
                      clear hK K
                      try simp only [List.getElem_toArray, List.getElem_cons_succ, List.getElem_cons_zero, Act.put, List.setIfInBounds_toArray, List.set_cons_zero, List.set_cons_succ]
                      refine wpAnyH_take (i := 9) (v := ?_) rfl (by kernel_rfl) (by kernel_rfl) (by kernel_rfl) (fun _ _ _ h => h) (Or.inl ⟨by rfl, ?_⟩) (by assumption) ?_
                      rotate_left
                      · (intro w hSw; (try dsimp only at hSw); first | (go_simp; done) | (go_simp; with_reducible rfl))
                      try simp only [List.getElem_toArray, List.getElem_cons_succ, List.getElem_cons_zero, Act.put, List.setIfInBounds_toArray, List.set_cons_zero, List.set_cons_succ]
                      refine wpAnyH_ready (rs := [11]) (by kernel_rfl) (by simp) ?_
                      refine AllReadyH.cons rfl (fun K hK => ?_) AllReadyH.nil
                      go_simp
                      refine hK.out _ _ ?_ (fun hHeld => ?_)
                      · exact ⟨by rw [World.cell?_setCell_other _ _ _ _ (by simp <;> omega), World.cell?_setCell_other _ _ _ _ (by simp <;> omega)]; exact p0, by rw [World.cell?_setCell_other _ _ _ _ (by simp <;> omega), World.cell?_setCell_other _ _ _ _ (by simp <;> omega)]; exact p1⟩
                      clear hK K
                      try simp only [List.getElem_toArray, List.getElem_cons_succ, List.getElem_cons_zero, Act.put, List.setIfInBounds_toArray, List.set_cons_zero, List.set_cons_succ]
                      refine wpAnyH_done (by kernel_rfl) ?_ _
                      have CF : ClzAt v8 0 (.slice (some ⟨g8, 0, none⟩) (Ls.length + 1) c8) (Ls ++ [⟨E, 0, []⟩]) := own_clz (unhide hF) (by have := own_base (unhide hF); omega) (fun q hq => by
                        rcases List.mem_append.1 hq with h | h
                        · exact ((unhide HC0).1 q h).later (unhide hbw)
                        · simp at h; subst h; exact ⟨by simp only; omega, zE, fun i hi => by simp at hi, by simp, fun x hx => by cases hx⟩)
                      have CG : ∀ q, q ∈ Ls ++ [⟨E, 0, []⟩] → q.g ≠ D := fun q hq => by
                        rcases List.mem_append.1 hq with h | h
                        · have := ((unhide HC0).1 q h).2.1; omega
                        · simp at h; subst h; simp only; omega
                      go_wp2_with fail
                      go_meet
                      exact ⟨D, g8, c8, E, rfl, by rw [World.cell?_setCell_other _ _ _ _ (by simp)]; exact World.cell?_setCell_same _ _ _ hD0, World.cell?_setCell_same _ _ _ (by rw [World.cell?_setCell_other _ _ _ _ (by simp)]; exact hD1), (CF.set CG (by simp [Value.ownBlock]; omega)).set CG (by simp [Value.ownBlock]; omega), (((unhide hbw).setCell yD _).setCell yD _)⟩
                · go_simp
                  obtain ⟨v10, hv10⟩ : ∃ x, x = v2.alloc (.cells #[.int .i64 0, .slice none 0 0] 25) := ⟨_, rfl⟩
                  have b10 : Below v2.heap.size v2 v10 := by rw [hv10]; exact (Below.refl _ _).alloc (Nat.le_refl _) _
                  have e10 : v2.heap.size < v10.heap.size := by rw [hv10]; simp
                  have f10 : wr.heap.size ≤ v2.heap.size := (unhide hbw).size
                  have hX : Hid (v10.heap[X]? = some (.cells #[] 32 (0, 0))) := (b10.block _ (by omega)).trans (unhide hX)
                  have zX : X < v10.heap.size := Nat.lt_of_lt_of_le zX b10.size
                  have hbw := hide ((unhide hbw).trans (b10.mono (unhide hbw).size))
                  have p0 := cell_later b10 p0
                  have p1 := cell_later b10 p1
                  have hD0 : v10.cell? ⟨v2.heap.size, 0, none⟩ = some (.int .i64 0) := by rw [hv10]; simp [go_sem]
                  have hD1 : v10.cell? ⟨v2.heap.size, 1, none⟩ = some (.slice none 0 0) := by rw [hv10]; simp [go_sem]
                  have hDf0 : v10.frozen? ⟨v2.heap.size, 0, none⟩ = false := by rw [hv10]; simp [go_sem]
                  have hDf1 : v10.frozen? ⟨v2.heap.size, 1, none⟩ = false := by rw [hv10]; simp [go_sem]
                  have nXD : X ≠ v2.heap.size := by omega
                  rw [← hv10]
                  obtain ⟨D, hDe⟩ : ∃ z, z = v2.heap.size := ⟨_, rfl⟩
                  rw [← hDe] at hD0 hD1 hDf0 hDf1 nXD ⊢
                  have zD : D < v10.heap.size := by omega
                  have yD : wr.heap.size ≤ D := by omega
                  clear hv10 b10 e10 f10 hDe
                  refine hK.out _ _ ?_ (fun hHeld => ?_)
                  · exact ⟨p0, p1⟩
                  clear hK K
                  try simp only [List.getElem_toArray, List.getElem_cons_succ, List.getElem_cons_zero, Act.put, List.setIfInBounds_toArray, List.set_cons_zero, List.set_cons_succ]
                  refine wpAnyH_ready (rs := [5, 6]) (by kernel_rfl) (by simp) ?_
                  refine AllReadyH.cons rfl (fun K hK => ?_) (AllReadyH.cons rfl (fun K hK => ?_) AllReadyH.nil)
                  · apply step_clz_copy (R := 0) (Ls := Ls) (base := wr.heap.size)
                    case hgd => rfl
                    case ho => rfl
                    case hty => rfl
                    case hs => rfl
                    case hX => exact unhide hX
                    case hbX => exact yX
                    case hbase => exact (unhide hbw).size
                    case hx => rfl
                    case hc => exact (unhide HC0).later (unhide hbw)
                    case hl => omega
                    case' h => intro g5 c5 v5 o5 gr5 at5 lt5
                    have mv5 : Mov X _ v5 := mov_of_grown gr5
                    have hD0 := mv5.cell hD0 (by simp only; omega)
                    have hD1 := mv5.cell hD1 (by simp only; omega)
                    have hDf0 := (World.frozen?_of_block (w := v10) (a := ⟨D, 0, none⟩) (mv5.2.2.2.2 D zD (by omega))).trans hDf0
                    have hDf1 := (World.frozen?_of_block (w := v10) (a := ⟨D, 1, none⟩) (mv5.2.2.2.2 D zD (by omega))).trans hDf1
                    have zD : D < v5.heap.size := Nat.lt_of_lt_of_le zD mv5.size
                    have p0 := mv5.cell p0 (by simp only; omega)
                    have p1 := mv5.cell p1 (by simp only; omega)
                    have hbw := hide ((unhide hbw).trans (mv5.below yX (unhide hbw).size))
                    have hO := hide o5
                    have zO := lt5
                    have yg5 : wr.heap.size ≤ g5 := own_base o5
                    have ng5D : g5 ≠ D := by rcases at5 with e | e <;> omega
                    clear o5 gr5 at5 lt5 mv5 hX zX yX
                    refine hK.out _ _ ?_ (fun hHeld => ?_)
                    · exact ⟨p0, p1⟩
                    clear hK K
                    try simp only [List.getElem_toArray, List.getElem_cons_succ, List.getElem_cons_zero, Act.put, List.setIfInBounds_toArray, List.set_cons_zero, List.set_cons_succ]
                    refine wpAnyH_ready (rs := [6]) (by kernel_rfl) (by simp) ?_
                    refine AllReadyH.cons rfl (fun K hK => ?_) AllReadyH.nil
                    go_simp
                    obtain ⟨v6, hv6⟩ : ∃ x, x = v5.alloc (.cells #[] 3) := ⟨_, rfl⟩
                    have b6 : Below v5.heap.size v5 v6 := by rw [hv6]; exact (Below.refl _ _).alloc (Nat.le_refl _) _
                    have e6 : v5.heap.size < v6.heap.size := by rw [hv6]; simp
                    have f6 : wr.heap.size ≤ v5.heap.size := (unhide hbw).size
                    have hO := hide (World.ownsRow.kept (w' := v6) (unhide hO) (grown_below b6) (by simp [Value.ownBlock]))
                    have hD0 := cell_later b6 hD0
                    have hD1 := cell_later b6 hD1
                    have hDf0 := (b6.frozen (p := ⟨D, 0, none⟩) zD).trans hDf0
                    have hDf1 := (b6.frozen (p := ⟨D, 1, none⟩) zD).trans hDf1
                    have zO : g5 < v6.heap.size := Nat.lt_of_lt_of_le zO b6.size
                    have zD : D < v6.heap.size := Nat.lt_of_lt_of_le zD b6.size
                    have hbw := hide ((unhide hbw).trans (b6.mono (unhide hbw).size))
                    have p0 := cell_later b6 p0
                    have p1 := cell_later b6 p1
                    have ng5E : g5 ≠ v5.heap.size := by omega
                    have nDE : D ≠ v5.heap.size := by omega
                    rw [← hv6]
                    obtain ⟨E, hEe⟩ : ∃ z, z = v5.heap.size := ⟨_, rfl⟩
                    rw [← hEe] at  ng5E nDE ⊢
                    have zE : E < v6.heap.size := by omega
                    have yE : wr.heap.size ≤ E := by omega
                    clear hv6 b6 e6 f6 hEe
                    refine hK.out _ _ ?_ (fun hHeld => ?_)
                    · exact ⟨p0, p1⟩
                    clear hK K
                    try simp only [List.getElem_toArray, List.getElem_cons_succ, List.getElem_cons_zero, Act.put, List.setIfInBounds_toArray, List.set_cons_zero, List.set_cons_succ]
                    refine wpAnyH_ready (rs := [7]) (by kernel_rfl) (by simp) ?_
                    refine AllReadyH.cons rfl (fun K hK => ?_) AllReadyH.nil
                    go_simp
                    obtain ⟨v7, hv7⟩ : ∃ x, x = v6.alloc (.cells #[.slice (some ⟨E, 0, none⟩) 0 0] 32) := ⟨_, rfl⟩
                    have b7 : Below v6.heap.size v6 v7 := by rw [hv7]; exact (Below.refl _ _).alloc (Nat.le_refl _) _
                    have e7 : v6.heap.size < v7.heap.size := by rw [hv7]; simp
                    have f7 : wr.heap.size ≤ v6.heap.size := (unhide hbw).size
                    have hO := hide (World.ownsRow.kept (w' := v7) (unhide hO) (grown_below b7) (by simp [Value.ownBlock]))
                    have hD0 := cell_later b7 hD0
                    have hD1 := cell_later b7 hD1
                    have hDf0 := (b7.frozen (p := ⟨D, 0, none⟩) zD).trans hDf0
                    have hDf1 := (b7.frozen (p := ⟨D, 1, none⟩) zD).trans hDf1
                    have zO : g5 < v7.heap.size := Nat.lt_of_lt_of_le zO b7.size
                    have zE : E < v7.heap.size := Nat.lt_of_lt_of_le zE b7.size
                    have zD : D < v7.heap.size := Nat.lt_of_lt_of_le zD b7.size
                    have hbw := hide ((unhide hbw).trans (b7.mono (unhide hbw).size))
                    have p0 := cell_later b7 p0
                    have p1 := cell_later b7 p1
                    have hT : v7.cell? ⟨v6.heap.size, 0, none⟩ = some (.slice (some ⟨E, 0, none⟩) 0 0) := by rw [hv7]; simp [go_sem]
                    have ng5T : g5 ≠ v6.heap.size := by omega
                    have nET : E ≠ v6.heap.size := by omega
                    have nDT : D ≠ v6.heap.size := by omega
                    rw [← hv7]
                    obtain ⟨T, hTe⟩ : ∃ z, z = v6.heap.size := ⟨_, rfl⟩
                    rw [← hTe] at hT ng5T nET nDT ⊢
                    have zT : T < v7.heap.size := by omega
                    have yT : wr.heap.size ≤ T := by omega
                    clear hv7 b7 e7 f7 hTe
                    refine hK.out _ _ ?_ (fun hHeld => ?_)
                    · exact ⟨p0, p1⟩
                    clear hK K
                    try simp only [List.getElem_toArray, List.getElem_cons_succ, List.getElem_cons_zero, Act.put, List.setIfInBounds_toArray, List.set_cons_zero, List.set_cons_succ]
                    refine wpAnyH_ready (rs := [8]) (by kernel_rfl) (by simp) ?_
                    refine AllReadyH.cons rfl (fun K hK => ?_) AllReadyH.nil
                    apply step_clz_one (Ls := Ls) (q := ⟨E, 0, []⟩) (base := wr.heap.size)
                    case hgd => rfl
                    case ho => rfl
                    case hty => rfl
                    case hs => rfl
                    case hown => exact unhide hO
                    case hbase => exact (unhide hbw).size
                    case hx => rfl
                    case hT => exact hT
                    case hl => omega
                    case' h => intro g8 c8 v8 o8 gr8 at8 lt8
                    have mv8 : Mov g5 _ v8 := mov_of_grown gr8
                    have zE : E < v8.heap.size := Nat.lt_of_lt_of_le zE mv8.size
                    have hD0 := mv8.cell hD0 (by simp only; omega)
                    have hD1 := mv8.cell hD1 (by simp only; omega)
                    have hDf0 := (World.frozen?_of_block (w := v7) (a := ⟨D, 0, none⟩) (mv8.2.2.2.2 D zD (by omega))).trans hDf0
                    have hDf1 := (World.frozen?_of_block (w := v7) (a := ⟨D, 1, none⟩) (mv8.2.2.2.2 D zD (by omega))).trans hDf1
                    have zD : D < v8.heap.size := Nat.lt_of_lt_of_le zD mv8.size
                    have p0 := mv8.cell p0 (by simp only; omega)
                    have p1 := mv8.cell p1 (by simp only; omega)
                    have hbw := hide ((unhide hbw).trans (mv8.below yg5 (unhide hbw).size))
                    have hF := hide o8
                    have zF := lt8
                    have ng8D : g8 ≠ D := by rcases at8 with e | e <;> omega
                    clear o8 gr8 at8 lt8 mv8 hO zO hT zT
                    refine hK.out _ _ ?_ (fun hHeld => ?_)
                    · exact ⟨p0, p1⟩
                    clear hK K
                    try simp only [List.getElem_toArray, List.getElem_cons_succ, List.getElem_cons_zero, Act.put, List.setIfInBounds_toArray, List.set_cons_zero, List.set_cons_succ]
                    refine wpAnyH_take (i := 9) (v := ?_) rfl (by kernel_rfl) (by kernel_rfl) (by kernel_rfl) (fun _ _ _ h => h) (Or.inl ⟨by rfl, ?_⟩) (by assumption) ?_
                    rotate_left
                    · (intro w hSw; (try dsimp only at hSw); first | (go_simp; done) | (go_simp; with_reducible rfl))
                    try simp only [List.getElem_toArray, List.getElem_cons_succ, List.getElem_cons_zero, Act.put, List.setIfInBounds_toArray, List.set_cons_zero, List.set_cons_succ]
                    refine wpAnyH_ready (rs := [11]) (by kernel_rfl) (by simp) ?_
                    refine AllReadyH.cons rfl (fun K hK => ?_) AllReadyH.nil
                    go_simp
                    refine hK.out _ _ ?_ (fun hHeld => ?_)
                    · exact ⟨by rw [World.cell?_setCell_other _ _ _ _ (by simp <;> omega), World.cell?_setCell_other _ _ _ _ (by simp <;> omega)]; exact p0, by rw [World.cell?_setCell_other _ _ _ _ (by simp <;> omega), World.cell?_setCell_other _ _ _ _ (by simp <;> omega)]; exact p1⟩
                    clear hK K
                    try simp only [List.getElem_toArray, List.getElem_cons_succ, List.getElem_cons_zero, Act.put, List.setIfInBounds_toArray, List.set_cons_zero, List.set_cons_succ]
                    refine wpAnyH_done (by kernel_rfl) ?_ _
                    have CF : ClzAt v8 0 (.slice (some ⟨g8, 0, none⟩) (Ls.length + 1) c8) (Ls ++ [⟨E, 0, []⟩]) := own_clz (unhide hF) (by have := own_base (unhide hF); omega) (fun q hq => by
                      rcases List.mem_append.1 hq with h | h
                      · exact ((unhide HC0).1 q h).later (unhide hbw)
                      · simp at h; subst h; exact ⟨by simp only; omega, zE, fun i hi => by simp at hi, by simp, fun x hx => by cases hx⟩)
                    have CG : ∀ q, q ∈ Ls ++ [⟨E, 0, []⟩] → q.g ≠ D := fun q hq => by
                      rcases List.mem_append.1 hq with h | h
                      · have := ((unhide HC0).1 q h).2.1; omega
                      · simp at h; subst h; simp only; omega
                    go_wp2_with fail
                    go_meet
                    exact ⟨D, g8, c8, E, rfl, by rw [World.cell?_setCell_other _ _ _ _ (by simp)]; exact World.cell?_setCell_same _ _ _ hD0, World.cell?_setCell_same _ _ _ (by rw [World.cell?_setCell_other _ _ _ _ (by simp)]; exact hD1), (CF.set CG (by simp [Value.ownBlock]; omega)).set CG (by simp [Value.ownBlock]; omega), (((unhide hbw).setCell yD _).setCell yD _)⟩
                  · go_simp
                    obtain ⟨v6, hv6⟩ : ∃ x, x = v10.alloc (.cells #[] 3) := ⟨_, rfl⟩
                    have b6 : Below v10.heap.size v10 v6 := by rw [hv6]; exact (Below.refl _ _).alloc (Nat.le_refl _) _
                    have e6 : v10.heap.size < v6.heap.size := by rw [hv6]; simp
                    have f6 : wr.heap.size ≤ v10.heap.size := (unhide hbw).size
                    have hX : Hid (v6.heap[X]? = some (.cells #[] 32 (0, 0))) := (b6.block _ (by omega)).trans (unhide hX)
                    have hD0 := cell_later b6 hD0
                    have hD1 := cell_later b6 hD1
                    have hDf0 := (b6.frozen (p := ⟨D, 0, none⟩) zD).trans hDf0
                    have hDf1 := (b6.frozen (p := ⟨D, 1, none⟩) zD).trans hDf1
                    have zX : X < v6.heap.size := Nat.lt_of_lt_of_le zX b6.size
                    have zD : D < v6.heap.size := Nat.lt_of_lt_of_le zD b6.size
                    have hbw := hide ((unhide hbw).trans (b6.mono (unhide hbw).size))
                    have p0 := cell_later b6 p0
                    have p1 := cell_later b6 p1
                    have nXE : X ≠ v10.heap.size := by omega
                    have nDE : D ≠ v10.heap.size := by omega
                    rw [← hv6]
                    obtain ⟨E, hEe⟩ : ∃ z, z = v10.heap.size := ⟨_, rfl⟩
                    rw [← hEe] at  nXE nDE ⊢
                    have zE : E < v6.heap.size := by omega
                    have yE : wr.heap.size ≤ E := by omega
                    clear hv6 b6 e6 f6 hEe
                    refine hK.out _ _ ?_ (fun hHeld => ?_)
                    · exact ⟨p0, p1⟩
                    clear hK K
                    try simp only [List.getElem_toArray, List.getElem_cons_succ, List.getElem_cons_zero, Act.put, List.setIfInBounds_toArray, List.set_cons_zero, List.set_cons_succ]
                    refine wpAnyH_ready (rs := [5, 7]) (by kernel_rfl) (by simp) ?_
                    refine AllReadyH.cons rfl (fun K hK => ?_) (AllReadyH.cons rfl (fun K hK => ?_) AllReadyH.nil)
                    · apply step_clz_copy (R := 0) (Ls := Ls) (base := wr.heap.size)
                      case hgd => rfl
                      case ho => rfl
                      case hty => rfl
                      case hs => rfl
                      case hX => exact unhide hX
                      case hbX => exact yX
                      case hbase => exact (unhide hbw).size
                      case hx => rfl
                      case hc => exact (unhide HC0).later (unhide hbw)
                      case hl => omega
                      case' h => intro g5 c5 v5 o5 gr5 at5 lt5
                      have mv5 : Mov X _ v5 := mov_of_grown gr5
                      have zE : E < v5.heap.size := Nat.lt_of_lt_of_le zE mv5.size
                      have hD0 := mv5.cell hD0 (by simp only; omega)
                      have hD1 := mv5.cell hD1 (by simp only; omega)
                      have hDf0 := (World.frozen?_of_block (w := v6) (a := ⟨D, 0, none⟩) (mv5.2.2.2.2 D zD (by omega))).trans hDf0
                      have hDf1 := (World.frozen?_of_block (w := v6) (a := ⟨D, 1, none⟩) (mv5.2.2.2.2 D zD (by omega))).trans hDf1
                      have zD : D < v5.heap.size := Nat.lt_of_lt_of_le zD mv5.size
                      have p0 := mv5.cell p0 (by simp only; omega)
                      have p1 := mv5.cell p1 (by simp only; omega)
                      have hbw := hide ((unhide hbw).trans (mv5.below yX (unhide hbw).size))
                      have hO := hide o5
                      have zO := lt5
                      have yg5 : wr.heap.size ≤ g5 := own_base o5
                      have ng5E : g5 ≠ E := by rcases at5 with e | e <;> omega
                      have ng5D : g5 ≠ D := by rcases at5 with e | e <;> omega
                      clear o5 gr5 at5 lt5 mv5 hX zX yX
                      refine hK.out _ _ ?_ (fun hHeld => ?_)
                      · exact ⟨p0, p1⟩
                      clear hK K
                      try simp only [List.getElem_toArray, List.getElem_cons_succ, List.getElem_cons_zero, Act.put, List.setIfInBounds_toArray, List.set_cons_zero, List.set_cons_succ]
                      refine wpAnyH_ready (rs := [7]) (by kernel_rfl) (by simp) ?_
                      refine AllReadyH.cons rfl (fun K hK => ?_) AllReadyH.nil
                      go_simp
                      obtain ⟨v7, hv7⟩ : ∃ x, x = v5.alloc (.cells #[.slice (some ⟨E, 0, none⟩) 0 0] 32) := ⟨_, rfl⟩
                      have b7 : Below v5.heap.size v5 v7 := by rw [hv7]; exact (Below.refl _ _).alloc (Nat.le_refl _) _
                      have e7 : v5.heap.size < v7.heap.size := by rw [hv7]; simp
                      have f7 : wr.heap.size ≤ v5.heap.size := (unhide hbw).size
                      have hO := hide (World.ownsRow.kept (w' := v7) (unhide hO) (grown_below b7) (by simp [Value.ownBlock]))
                      have hD0 := cell_later b7 hD0
                      have hD1 := cell_later b7 hD1
                      have hDf0 := (b7.frozen (p := ⟨D, 0, none⟩) zD).trans hDf0
                      have hDf1 := (b7.frozen (p := ⟨D, 1, none⟩) zD).trans hDf1
                      have zO : g5 < v7.heap.size := Nat.lt_of_lt_of_le zO b7.size
                      have zE : E < v7.heap.size := Nat.lt_of_lt_of_le zE b7.size
                      have zD : D < v7.heap.size := Nat.lt_of_lt_of_le zD b7.size
                      have hbw := hide ((unhide hbw).trans (b7.mono (unhide hbw).size))
                      have p0 := cell_later b7 p0
                      have p1 := cell_later b7 p1
                      have hT : v7.cell? ⟨v5.heap.size, 0, none⟩ = some (.slice (some ⟨E, 0, none⟩) 0 0) := by rw [hv7]; simp [go_sem]
                      have ng5T : g5 ≠ v5.heap.size := by omega
                      have nET : E ≠ v5.heap.size := by omega
                      have nDT : D ≠ v5.heap.size := by omega
                      rw [← hv7]
                      obtain ⟨T, hTe⟩ : ∃ z, z = v5.heap.size := ⟨_, rfl⟩
                      rw [← hTe] at hT ng5T nET nDT ⊢
                      have zT : T < v7.heap.size := by omega
                      have yT : wr.heap.size ≤ T := by omega
                      clear hv7 b7 e7 f7 hTe
                      refine hK.out _ _ ?_ (fun hHeld => ?_)
                      · exact ⟨p0, p1⟩
                      clear hK K
                      try simp only [List.getElem_toArray, List.getElem_cons_succ, List.getElem_cons_zero, Act.put, List.setIfInBounds_toArray, List.set_cons_zero, List.set_cons_succ]
                      refine wpAnyH_ready (rs := [8]) (by kernel_rfl) (by simp) ?_
                      refine AllReadyH.cons rfl (fun K hK => ?_) AllReadyH.nil
                      apply step_clz_one (Ls := Ls) (q := ⟨E, 0, []⟩) (base := wr.heap.size)
                      case hgd => rfl
                      case ho => rfl
                      case hty => rfl
                      case hs => rfl
                      case hown => exact unhide hO
                      case hbase => exact (unhide hbw).size
                      case hx => rfl
                      case hT => exact hT
                      case hl => omega
                      case' h => intro g8 c8 v8 o8 gr8 at8 lt8
                      have mv8 : Mov g5 _ v8 := mov_of_grown gr8
                      have zE : E < v8.heap.size := Nat.lt_of_lt_of_le zE mv8.size
                      have hD0 := mv8.cell hD0 (by simp only; omega)
                      have hD1 := mv8.cell hD1 (by simp only; omega)
                      have hDf0 := (World.frozen?_of_block (w := v7) (a := ⟨D, 0, none⟩) (mv8.2.2.2.2 D zD (by omega))).trans hDf0
                      have hDf1 := (World.frozen?_of_block (w := v7) (a := ⟨D, 1, none⟩) (mv8.2.2.2.2 D zD (by omega))).trans hDf1
                      have zD : D < v8.heap.size := Nat.lt_of_lt_of_le zD mv8.size
                      have p0 := mv8.cell p0 (by simp only; omega)
                      have p1 := mv8.cell p1 (by simp only; omega)
                      have hbw := hide ((unhide hbw).trans (mv8.below yg5 (unhide hbw).size))
                      have hF := hide o8
                      have zF := lt8
                      have ng8D : g8 ≠ D := by rcases at8 with e | e <;> omega
                      clear o8 gr8 at8 lt8 mv8 hO zO hT zT
                      refine hK.out _ _ ?_ (fun hHeld => ?_)
                      · exact ⟨p0, p1⟩
                      clear hK K
                      try simp only [List.getElem_toArray, List.getElem_cons_succ, List.getElem_cons_zero, Act.put, List.setIfInBounds_toArray, List.set_cons_zero, List.set_cons_succ]
                      refine wpAnyH_take (i := 9) (v := ?_) rfl (by kernel_rfl) (by kernel_rfl) (by kernel_rfl) (fun _ _ _ h => h) (Or.inl ⟨by rfl, ?_⟩) (by assumption) ?_
                      rotate_left
                      · (intro w hSw; (try dsimp only at hSw); first | (go_simp; done) | (go_simp; with_reducible rfl))
                      try simp only [List.getElem_toArray, List.getElem_cons_succ, List.getElem_cons_zero, Act.put, List.setIfInBounds_toArray, List.set_cons_zero, List.set_cons_succ]
                      refine wpAnyH_ready (rs := [11]) (by kernel_rfl) (by simp) ?_
                      refine AllReadyH.cons rfl (fun K hK => ?_) AllReadyH.nil
                      go_simp
                      refine hK.out _ _ ?_ (fun hHeld => ?_)
                      · exact ⟨by rw [World.cell?_setCell_other _ _ _ _ (by simp <;> omega), World.cell?_setCell_other _ _ _ _ (by simp <;> omega)]; exact p0, by rw [World.cell?_setCell_other _ _ _ _ (by simp <;> omega), World.cell?_setCell_other _ _ _ _ (by simp <;> omega)]; exact p1⟩
                      clear hK K
                      try simp only [List.getElem_toArray, List.getElem_cons_succ, List.getElem_cons_zero, Act.put, List.setIfInBounds_toArray, List.set_cons_zero, List.set_cons_succ]
                      refine wpAnyH_done (by kernel_rfl) ?_ _
                      have CF : ClzAt v8 0 (.slice (some ⟨g8, 0, none⟩) (Ls.length + 1) c8) (Ls ++ [⟨E, 0, []⟩]) := own_clz (unhide hF) (by have := own_base (unhide hF); omega) (fun q hq => by
                        rcases List.mem_append.1 hq with h | h
                        · exact ((unhide HC0).1 q h).later (unhide hbw)
                        · simp at h; subst h; exact ⟨by simp only; omega, zE, fun i hi => by simp at hi, by simp, fun x hx => by cases hx⟩)
                      have CG : ∀ q, q ∈ Ls ++ [⟨E, 0, []⟩] → q.g ≠ D := fun q hq => by
                        rcases List.mem_append.1 hq with h | h
                        · have := ((unhide HC0).1 q h).2.1; omega
                        · simp at h; subst h; simp only; omega
                      go_wp2_with fail
                      go_meet
                      exact ⟨D, g8, c8, E, rfl, by rw [World.cell?_setCell_other _ _ _ _ (by simp)]; exact World.cell?_setCell_same _ _ _ hD0, World.cell?_setCell_same _ _ _ (by rw [World.cell?_setCell_other _ _ _ _ (by simp)]; exact hD1), (CF.set CG (by simp [Value.ownBlock]; omega)).set CG (by simp [Value.ownBlock]; omega), (((unhide hbw).setCell yD _).setCell yD _)⟩
                    · go_simp
                      obtain ⟨v7, hv7⟩ : ∃ x, x = v6.alloc (.cells #[.slice (some ⟨E, 0, none⟩) 0 0] 32) := ⟨_, rfl⟩
                      have b7 : Below v6.heap.size v6 v7 := by rw [hv7]; exact (Below.refl _ _).alloc (Nat.le_refl _) _
                      have e7 : v6.heap.size < v7.heap.size := by rw [hv7]; simp
                      have f7 : wr.heap.size ≤ v6.heap.size := (unhide hbw).size
                      have hX : Hid (v7.heap[X]? = some (.cells #[] 32 (0, 0))) := (b7.block _ (by omega)).trans (unhide hX)
                      have hD0 := cell_later b7 hD0
                      have hD1 := cell_later b7 hD1
                      have hDf0 := (b7.frozen (p := ⟨D, 0, none⟩) zD).trans hDf0
                      have hDf1 := (b7.frozen (p := ⟨D, 1, none⟩) zD).trans hDf1
                      have zX : X < v7.heap.size := Nat.lt_of_lt_of_le zX b7.size
                      have zE : E < v7.heap.size := Nat.lt_of_lt_of_le zE b7.size
                      have zD : D < v7.heap.size := Nat.lt_of_lt_of_le zD b7.size
                      have hbw := hide ((unhide hbw).trans (b7.mono (unhide hbw).size))
                      have p0 := cell_later b7 p0
                      have p1 := cell_later b7 p1
                      have hT : v7.cell? ⟨v6.heap.size, 0, none⟩ = some (.slice (some ⟨E, 0, none⟩) 0 0) := by rw [hv7]; simp [go_sem]
                      have nXT : X ≠ v6.heap.size := by omega
                      have nET : E ≠ v6.heap.size := by omega
                      have nDT : D ≠ v6.heap.size := by omega
                      rw [← hv7]
                      obtain ⟨T, hTe⟩ : ∃ z, z = v6.heap.size := ⟨_, rfl⟩
                      rw [← hTe] at hT nXT nET nDT ⊢
                      have zT : T < v7.heap.size := by omega
                      have yT : wr.heap.size ≤ T := by omega
                      clear hv7 b7 e7 f7 hTe
                      refine hK.out _ _ ?_ (fun hHeld => ?_)
                      · exact ⟨p0, p1⟩
                      clear hK K
                      try simp only [List.getElem_toArray, List.getElem_cons_succ, List.getElem_cons_zero, Act.put, List.setIfInBounds_toArray, List.set_cons_zero, List.set_cons_succ]
                      refine wpAnyH_ready (rs := [5]) (by kernel_rfl) (by simp) ?_
                      refine AllReadyH.cons rfl (fun K hK => ?_) AllReadyH.nil
                      apply step_clz_copy (R := 0) (Ls := Ls) (base := wr.heap.size)
                      case hgd => rfl
                      case ho => rfl
                      case hty => rfl
                      case hs => rfl
                      case hX => exact unhide hX
                      case hbX => exact yX
                      case hbase => exact (unhide hbw).size
                      case hx => rfl
                      case hc => exact (unhide HC0).later (unhide hbw)
                      case hl => omega
                      case' h => intro g5 c5 v5 o5 gr5 at5 lt5
                      have mv5 : Mov X _ v5 := mov_of_grown gr5
                      have hT := mv5.cell hT (by simp only; omega)
                      have zT : T < v5.heap.size := Nat.lt_of_lt_of_le zT mv5.size
                      have zE : E < v5.heap.size := Nat.lt_of_lt_of_le zE mv5.size
                      have hD0 := mv5.cell hD0 (by simp only; omega)
                      have hD1 := mv5.cell hD1 (by simp only; omega)
                      have hDf0 := (World.frozen?_of_block (w := v7) (a := ⟨D, 0, none⟩) (mv5.2.2.2.2 D zD (by omega))).trans hDf0
                      have hDf1 := (World.frozen?_of_block (w := v7) (a := ⟨D, 1, none⟩) (mv5.2.2.2.2 D zD (by omega))).trans hDf1
                      have zD : D < v5.heap.size := Nat.lt_of_lt_of_le zD mv5.size
                      have p0 := mv5.cell p0 (by simp only; omega)
                      have p1 := mv5.cell p1 (by simp only; omega)
                      have hbw := hide ((unhide hbw).trans (mv5.below yX (unhide hbw).size))
                      have hO := hide o5
                      have zO := lt5
                      have yg5 : wr.heap.size ≤ g5 := own_base o5
                      have ng5T : g5 ≠ T := by rcases at5 with e | e <;> omega
                      have ng5E : g5 ≠ E := by rcases at5 with e | e <;> omega
                      have ng5D : g5 ≠ D := by rcases at5 with e | e <;> omega
                      clear o5 gr5 at5 lt5 mv5 hX zX yX
                      refine hK.out _ _ ?_ (fun hHeld => ?_)
                      · exact ⟨p0, p1⟩
                      clear hK K
                      try simp only [List.getElem_toArray, List.getElem_cons_succ, List.getElem_cons_zero, Act.put, List.setIfInBounds_toArray, List.set_cons_zero, List.set_cons_succ]
                      refine wpAnyH_ready (rs := [8]) (by kernel_rfl) (by simp) ?_
                      refine AllReadyH.cons rfl (fun K hK => ?_) AllReadyH.nil
                      apply step_clz_one (Ls := Ls) (q := ⟨E, 0, []⟩) (base := wr.heap.size)
                      case hgd => rfl
                      case ho => rfl
                      case hty => rfl
                      case hs => rfl
                      case hown => exact unhide hO
                      case hbase => exact (unhide hbw).size
                      case hx => rfl
                      case hT => exact hT
                      case hl => omega
                      case' h => intro g8 c8 v8 o8 gr8 at8 lt8
                      have mv8 : Mov g5 _ v8 := mov_of_grown gr8
                      have zE : E < v8.heap.size := Nat.lt_of_lt_of_le zE mv8.size
                      have hD0 := mv8.cell hD0 (by simp only; omega)
                      have hD1 := mv8.cell hD1 (by simp only; omega)
                      have hDf0 := (World.frozen?_of_block (w := v5) (a := ⟨D, 0, none⟩) (mv8.2.2.2.2 D zD (by omega))).trans hDf0
                      have hDf1 := (World.frozen?_of_block (w := v5) (a := ⟨D, 1, none⟩) (mv8.2.2.2.2 D zD (by omega))).trans hDf1
                      have zD : D < v8.heap.size := Nat.lt_of_lt_of_le zD mv8.size
                      have p0 := mv8.cell p0 (by simp only; omega)
                      have p1 := mv8.cell p1 (by simp only; omega)
                      have hbw := hide ((unhide hbw).trans (mv8.below yg5 (unhide hbw).size))
                      have hF := hide o8
                      have zF := lt8
                      have ng8D : g8 ≠ D := by rcases at8 with e | e <;> omega
                      clear o8 gr8 at8 lt8 mv8 hO zO hT zT
                      refine hK.out _ _ ?_ (fun hHeld => ?_)
                      · exact ⟨p0, p1⟩
                      clear hK K
                      try simp only [List.getElem_toArray, List.getElem_cons_succ, List.getElem_cons_zero, Act.put, List.setIfInBounds_toArray, List.set_cons_zero, List.set_cons_succ]
                      refine wpAnyH_take (i := 9) (v := ?_) rfl (by kernel_rfl) (by kernel_rfl) (by kernel_rfl) (fun _ _ _ h => h) (Or.inl ⟨by rfl, ?_⟩) (by assumption) ?_
                      rotate_left
                      · (intro w hSw; (try dsimp only at hSw); first | (go_simp; done) | (go_simp; with_reducible rfl))
                      try simp only [List.getElem_toArray, List.getElem_cons_succ, List.getElem_cons_zero, Act.put, List.setIfInBounds_toArray, List.set_cons_zero, List.set_cons_succ]
                      refine wpAnyH_ready (rs := [11]) (by kernel_rfl) (by simp) ?_
                      refine AllReadyH.cons rfl (fun K hK => ?_) AllReadyH.nil
                      go_simp
                      refine hK.out _ _ ?_ (fun hHeld => ?_)
                      · exact ⟨by rw [World.cell?_setCell_other _ _ _ _ (by simp <;> omega), World.cell?_setCell_other _ _ _ _ (by simp <;> omega)]; exact p0, by rw [World.cell?_setCell_other _ _ _ _ (by simp <;> omega), World.cell?_setCell_other _ _ _ _ (by simp <;> omega)]; exact p1⟩
                      clear hK K
                      try simp only [List.getElem_toArray, List.getElem_cons_succ, List.getElem_cons_zero, Act.put, List.setIfInBounds_toArray, List.set_cons_zero, List.set_cons_succ]
                      refine wpAnyH_done (by kernel_rfl) ?_ _
                      have CF : ClzAt v8 0 (.slice (some ⟨g8, 0, none⟩) (Ls.length + 1) c8) (Ls ++ [⟨E, 0, []⟩]) := own_clz (unhide hF) (by have := own_base (unhide hF); omega) (fun q hq => by
                        rcases List.mem_append.1 hq with h | h
                        · exact ((unhide HC0).1 q h).later (unhide hbw)
                        · simp at h; subst h; exact ⟨by simp only; omega, zE, fun i hi => by simp at hi, by simp, fun x hx => by cases hx⟩)
                      have CG : ∀ q, q ∈ Ls ++ [⟨E, 0, []⟩] → q.g ≠ D := fun q hq => by
                        rcases List.mem_append.1 hq with h | h
                        · have := ((unhide HC0).1 q h).2.1; omega
                        · simp at h; subst h; simp only; omega
                      go_wp2_with fail
                      go_meet
                      exact ⟨D, g8, c8, E, rfl, by rw [World.cell?_setCell_other _ _ _ _ (by simp)]; exact World.cell?_setCell_same _ _ _ hD0, World.cell?_setCell_same _ _ _ (by rw [World.cell?_setCell_other _ _ _ _ (by simp)]; exact hD1), (CF.set CG (by simp [Value.ownBlock]; omega)).set CG (by simp [Value.ownBlock]; omega), (((unhide hbw).setCell yD _).setCell yD _)⟩
              · go_simp
                obtain ⟨v6, hv6⟩ : ∃ x, x = wd.alloc (.cells #[] 3) := ⟨_, rfl⟩
                have b6 : Below wd.heap.size wd v6 := by rw [hv6]; exact (Below.refl _ _).alloc (Nat.le_refl _) _
                have e6 : wd.heap.size < v6.heap.size := by rw [hv6]; simp
                have f6 : wr.heap.size ≤ wd.heap.size := (unhide hbw).size
                have hbw := hide ((unhide hbw).trans (b6.mono (unhide hbw).size))
                have p0 := cell_later b6 p0
                have p1 := cell_later b6 p1
                rw [← hv6]
                obtain ⟨E, hEe⟩ : ∃ z, z = wd.heap.size := ⟨_, rfl⟩
                rw [← hEe]
                have zE : E < v6.heap.size := by omega
                have yE : wr.heap.size ≤ E := by omega
                clear hv6 b6 e6 f6 hEe
                refine hK.out _ _ ?_ (fun hHeld => ?_)
                · exact ⟨p0, p1⟩
                clear hK K
                try simp only [List.getElem_toArray, List.getElem_cons_succ, List.getElem_cons_zero, Act.put, List.setIfInBounds_toArray, List.set_cons_zero, List.set_cons_succ]
                refine wpAnyH_ready (rs := [2, 7, 10]) (by kernel_rfl) (by simp) ?_
                refine AllReadyH.cons rfl (fun K hK => ?_) (AllReadyH.cons rfl (fun K hK => ?_) (AllReadyH.cons rfl (fun K hK => ?_) AllReadyH.nil))
                · go_simp
                  obtain ⟨v2, hv2⟩ : ∃ x, x = v6.alloc (.cells #[] 32) := ⟨_, rfl⟩
                  have b2 : Below v6.heap.size v6 v2 := by rw [hv2]; exact (Below.refl _ _).alloc (Nat.le_refl _) _
                  have e2 : v6.heap.size < v2.heap.size := by rw [hv2]; simp
                  have f2 : wr.heap.size ≤ v6.heap.size := (unhide hbw).size
                  have zE : E < v2.heap.size := Nat.lt_of_lt_of_le zE b2.size
                  have hbw := hide ((unhide hbw).trans (b2.mono (unhide hbw).size))
                  have p0 := cell_later b2 p0
                  have p1 := cell_later b2 p1
                  have hX : Hid (v2.heap[v6.heap.size]? = some (.cells #[] 32 (0, 0))) := by show _ = _; rw [hv2]; exact alloc_at rfl
                  have nEX : E ≠ v6.heap.size := by omega
                  rw [← hv2]
                  obtain ⟨X, hXe⟩ : ∃ z, z = v6.heap.size := ⟨_, rfl⟩
                  rw [← hXe] at hX nEX ⊢
                  have zX : X < v2.heap.size := by omega
                  have yX : wr.heap.size ≤ X := by omega
                  clear hv2 b2 e2 f2 hXe
                  refine hK.out _ _ ?_ (fun hHeld => ?_)
                  · exact ⟨p0, p1⟩
                  clear hK K
                  try simp only [List.getElem_toArray, List.getElem_cons_succ, List.getElem_cons_zero, Act.put, List.setIfInBounds_toArray, List.set_cons_zero, List.set_cons_succ]
                  refine wpAnyH_ready (rs := [5, 7, 10]) (by kernel_rfl) (by simp) ?_
                  refine AllReadyH.cons rfl (fun K hK => ?_) (AllReadyH.cons rfl (fun K hK => ?_) (AllReadyH.cons rfl (fun K hK => ?_) AllReadyH.nil))
                  · apply step_clz_copy (R := 0) (Ls := Ls) (base := wr.heap.size)
                    case hgd => rfl
                    case ho => rfl
                    case hty => rfl
                    case hs => rfl
                    case hX => exact unhide hX
                    case hbX => exact yX
                    case hbase => exact (unhide hbw).size
                    case hx => rfl
                    case hc => exact (unhide HC0).later (unhide hbw)
                    case hl => omega
                    case' h => intro g5 c5 v5 o5 gr5 at5 lt5
                    have mv5 : Mov X _ v5 := mov_of_grown gr5
                    have zE : E < v5.heap.size := Nat.lt_of_lt_of_le zE mv5.size
                    have p0 := mv5.cell p0 (by simp only; omega)
                    have p1 := mv5.cell p1 (by simp only; omega)
                    have hbw := hide ((unhide hbw).trans (mv5.below yX (unhide hbw).size))
                    have hO := hide o5
                    have zO := lt5
                    have yg5 : wr.heap.size ≤ g5 := own_base o5
                    have ng5E : g5 ≠ E := by rcases at5 with e | e <;> omega
                    clear o5 gr5 at5 lt5 mv5 hX zX yX
                    refine hK.out _ _ ?_ (fun hHeld => ?_)
                    · exact ⟨p0, p1⟩
                    clear hK K
                    try simp only [List.getElem_toArray, List.getElem_cons_succ, List.getElem_cons_zero, Act.put, List.setIfInBounds_toArray, List.set_cons_zero, List.set_cons_succ]
                    refine wpAnyH_ready (rs := [7, 10]) (by kernel_rfl) (by simp) ?_
                    refine AllReadyH.cons rfl (fun K hK => ?_) (AllReadyH.cons rfl (fun K hK => ?_) AllReadyH.nil)
                    · go_simp
                      obtain ⟨v7, hv7⟩ : ∃ x, x = v5.alloc (.cells #[.slice (some ⟨E, 0, none⟩) 0 0] 32) := ⟨_, rfl⟩
                      have b7 : Below v5.heap.size v5 v7 := by rw [hv7]; exact (Below.refl _ _).alloc (Nat.le_refl _) _
                      have e7 : v5.heap.size < v7.heap.size := by rw [hv7]; simp
                      have f7 : wr.heap.size ≤ v5.heap.size := (unhide hbw).size
                      have hO := hide (World.ownsRow.kept (w' := v7) (unhide hO) (grown_below b7) (by simp [Value.ownBlock]))
                      have zO : g5 < v7.heap.size := Nat.lt_of_lt_of_le zO b7.size
                      have zE : E < v7.heap.size := Nat.lt_of_lt_of_le zE b7.size
                      have hbw := hide ((unhide hbw).trans (b7.mono (unhide hbw).size))
                      have p0 := cell_later b7 p0
                      have p1 := cell_later b7 p1
                      have hT : v7.cell? ⟨v5.heap.size, 0, none⟩ = some (.slice (some ⟨E, 0, none⟩) 0 0) := by rw [hv7]; simp [go_sem]
                      have ng5T : g5 ≠ v5.heap.size := by omega
                      have nET : E ≠ v5.heap.size := by omega
                      rw [← hv7]
                      obtain ⟨T, hTe⟩ : ∃ z, z = v5.heap.size := ⟨_, rfl⟩
                      rw [← hTe] at hT ng5T nET ⊢
                      have zT : T < v7.heap.size := by omega
                      have yT : wr.heap.size ≤ T := by omega
                      clear hv7 b7 e7 f7 hTe
                      refine hK.out _ _ ?_ (fun hHeld => ?_)
                      · exact ⟨p0, p1⟩
                      clear hK K
                      try simp only [List.getElem_toArray, List.getElem_cons_succ, List.getElem_cons_zero, Act.put, List.setIfInBounds_toArray, List.set_cons_zero, List.set_cons_succ]
                      refine wpAnyH_ready (rs := [8, 10]) (by kernel_rfl) (by simp) ?_
                      refine AllReadyH.cons rfl (fun K hK => ?_) (AllReadyH.cons rfl (fun K hK => ?_) AllReadyH.nil)
                      · apply step_clz_one (Ls := Ls) (q := ⟨E, 0, []⟩) (base := wr.heap.size)
                        case hgd => rfl
                        case ho => rfl
                        case hty => rfl
                        case hs => rfl
                        case hown => exact unhide hO
                        case hbase => exact (unhide hbw).size
                        case hx => rfl
                        case hT => exact hT
                        case hl => omega
                        case' h => intro g8 c8 v8 o8 gr8 at8 lt8
                        have mv8 : Mov g5 _ v8 := mov_of_grown gr8
                        have zE : E < v8.heap.size := Nat.lt_of_lt_of_le zE mv8.size
                        have p0 := mv8.cell p0 (by simp only; omega)
                        have p1 := mv8.cell p1 (by simp only; omega)
                        have hbw := hide ((unhide hbw).trans (mv8.below yg5 (unhide hbw).size))
                        have hF := hide o8
                        have zF := lt8
                        clear o8 gr8 at8 lt8 mv8 hO zO hT zT
                        refine hK.out _ _ ?_ (fun hHeld => ?_)
                        · exact ⟨p0, p1⟩
                        clear hK K
                        try simp only [List.getElem_toArray, List.getElem_cons_succ, List.getElem_cons_zero, Act.put, List.setIfInBounds_toArray, List.set_cons_zero, List.set_cons_succ]
                        refine wpAnyH_take (i := 9) (v := ?_) rfl (by kernel_rfl) (by kernel_rfl) (by kernel_rfl) (fun _ _ _ h => h) (Or.inl ⟨by rfl, ?_⟩) (by assumption) ?_
                        rotate_left
                        · (intro w hSw; (try dsimp only at hSw); first | (go_simp; done) | (go_simp; with_reducible rfl))
                        try simp only [List.getElem_toArray, List.getElem_cons_succ, List.getElem_cons_zero, Act.put, List.setIfInBounds_toArray, List.set_cons_zero, List.set_cons_succ]
                        refine wpAnyH_ready (rs := [10]) (by kernel_rfl) (by simp) ?_
                        refine AllReadyH.cons rfl (fun K hK => ?_) AllReadyH.nil
                        go_simp
                        obtain ⟨v10, hv10⟩ : ∃ x, x = v8.alloc (.cells #[.int .i64 0, .slice none 0 0] 25) := ⟨_, rfl⟩
                        have b10 : Below v8.heap.size v8 v10 := by rw [hv10]; exact (Below.refl _ _).alloc (Nat.le_refl _) _
                        have e10 : v8.heap.size < v10.heap.size := by rw [hv10]; simp
                        have f10 : wr.heap.size ≤ v8.heap.size := (unhide hbw).size
                        have hF := hide (World.ownsRow.kept (w' := v10) (unhide hF) (grown_below b10) (by simp [Value.ownBlock]))
                        have zF : g8 < v10.heap.size := Nat.lt_of_lt_of_le zF b10.size
                        have zE : E < v10.heap.size := Nat.lt_of_lt_of_le zE b10.size
                        have hbw := hide ((unhide hbw).trans (b10.mono (unhide hbw).size))
                        have p0 := cell_later b10 p0
                        have p1 := cell_later b10 p1
                        have hD0 : v10.cell? ⟨v8.heap.size, 0, none⟩ = some (.int .i64 0) := by rw [hv10]; simp [go_sem]
                        have hD1 : v10.cell? ⟨v8.heap.size, 1, none⟩ = some (.slice none 0 0) := by rw [hv10]; simp [go_sem]
                        have hDf0 : v10.frozen? ⟨v8.heap.size, 0, none⟩ = false := by rw [hv10]; simp [go_sem]
                        have hDf1 : v10.frozen? ⟨v8.heap.size, 1, none⟩ = false := by rw [hv10]; simp [go_sem]
                        have ng8D : g8 ≠ v8.heap.size := by omega
                        have nED : E ≠ v8.heap.size := by omega
                        rw [← hv10]
                        obtain ⟨D, hDe⟩ : ∃ z, z = v8.heap.size := ⟨_, rfl⟩
                        rw [← hDe] at hD0 hD1 hDf0 hDf1 ng8D nED ⊢
                        have zD : D < v10.heap.size := by omega
                        have yD : wr.heap.size ≤ D := by omega
                        clear hv10 b10 e10 f10 hDe
                        refine hK.out _ _ ?_ (fun hHeld => ?_)
                        · exact ⟨p0, p1⟩
                        clear hK K
                        try simp only [List.getElem_toArray, List.getElem_cons_succ, List.getElem_cons_zero, Act.put, List.setIfInBounds_toArray, List.set_cons_zero, List.set_cons_succ]
                        refine wpAnyH_ready (rs := [11]) (by kernel_rfl) (by simp) ?_
                        refine AllReadyH.cons rfl (fun K hK => ?_) AllReadyH.nil
                        go_simp
                        refine hK.out _ _ ?_ (fun hHeld => ?_)
                        · exact ⟨by rw [World.cell?_setCell_other _ _ _ _ (by simp <;> omega), World.cell?_setCell_other _ _ _ _ (by simp <;> omega)]; exact p0, by rw [World.cell?_setCell_other _ _ _ _ (by simp <;> omega), World.cell?_setCell_other _ _ _ _ (by simp <;> omega)]; exact p1⟩
                        clear hK K
                        try simp only [List.getElem_toArray, List.getElem_cons_succ, List.getElem_cons_zero, Act.put, List.setIfInBounds_toArray, List.set_cons_zero, List.set_cons_succ]
                        refine wpAnyH_done (by kernel_rfl) ?_ _
                        have CF : ClzAt v10 0 (.slice (some ⟨g8, 0, none⟩) (Ls.length + 1) c8) (Ls ++ [⟨E, 0, []⟩]) := own_clz (unhide hF) (by have := own_base (unhide hF); omega) (fun q hq => by
                          rcases List.mem_append.1 hq with h | h
                          · exact ((unhide HC0).1 q h).later (unhide hbw)
                          · simp at h; subst h; exact ⟨by simp only; omega, zE, fun i hi => by simp at hi, by simp, fun x hx => by cases hx⟩)
                        have CG : ∀ q, q ∈ Ls ++ [⟨E, 0, []⟩] → q.g ≠ D := fun q hq => by
                          rcases List.mem_append.1 hq with h | h
                          · have := ((unhide HC0).1 q h).2.1; omega
                          · simp at h; subst h; simp only; omega
                        go_wp2_with fail
                        go_meet
                        exact ⟨D, g8, c8, E, rfl, by rw [World.cell?_setCell_other _ _ _ _ (by simp)]; exact World.cell?_setCell_same _ _ _ hD0, World.cell?_setCell_same _ _ _ (by rw [World.cell?_setCell_other _ _ _ _ (by simp)]; exact hD1), (CF.set CG (by simp [Value.ownBlock]; omega)).set CG (by simp [Value.ownBlock]; omega), (((unhide hbw).setCell yD _).setCell yD _)⟩
                      · go_simp
                        obtain ⟨v10, hv10⟩ : ∃ x, x = v7.alloc (.cells #[.int .i64 0, .slice none 0 0] 25) := ⟨_, rfl⟩
                        have b10 : Below v7.heap.size v7 v10 := by rw [hv10]; exact (Below.refl _ _).alloc (Nat.le_refl _) _
                        have e10 : v7.heap.size < v10.heap.size := by rw [hv10]; simp
                        have f10 : wr.heap.size ≤ v7.heap.size := (unhide hbw).size
                        have hO := hide (World.ownsRow.kept (w' := v10) (unhide hO) (grown_below b10) (by simp [Value.ownBlock]))
                        have hT := cell_later b10 hT
                        have zO : g5 < v10.heap.size := Nat.lt_of_lt_of_le zO b10.size
                        have zT : T < v10.heap.size := Nat.lt_of_lt_of_le zT b10.size
                        have zE : E < v10.heap.size := Nat.lt_of_lt_of_le zE b10.size
                        have hbw := hide ((unhide hbw).trans (b10.mono (unhide hbw).size))
                        have p0 := cell_later b10 p0
                        have p1 := cell_later b10 p1
                        have hD0 : v10.cell? ⟨v7.heap.size, 0, none⟩ = some (.int .i64 0) := by rw [hv10]; simp [go_sem]
                        have hD1 : v10.cell? ⟨v7.heap.size, 1, none⟩ = some (.slice none 0 0) := by rw [hv10]; simp [go_sem]
                        have hDf0 : v10.frozen? ⟨v7.heap.size, 0, none⟩ = false := by rw [hv10]; simp [go_sem]
                        have hDf1 : v10.frozen? ⟨v7.heap.size, 1, none⟩ = false := by rw [hv10]; simp [go_sem]
                        have ng5D : g5 ≠ v7.heap.size := by omega
                        have nTD : T ≠ v7.heap.size := by omega
                        have nED : E ≠ v7.heap.size := by omega
                        rw [← hv10]
                        obtain ⟨D, hDe⟩ : ∃ z, z = v7.heap.size := ⟨_, rfl⟩
                        rw [← hDe] at hD0 hD1 hDf0 hDf1 ng5D nTD nED ⊢
                        have zD : D < v10.heap.size := by omega
                        have yD : wr.heap.size ≤ D := by omega
                        clear hv10 b10 e10 f10 hDe
                        refine hK.out _ _ ?_ (fun hHeld => ?_)
                        · exact ⟨p0, p1⟩
                        clear hK K
                        try simp only [List.getElem_toArray, List.getElem_cons_succ, List.getElem_cons_zero, Act.put, List.setIfInBounds_toArray, List.set_cons_zero, List.set_cons_succ]
                        refine wpAnyH_ready (rs := [8]) (by kernel_rfl) (by simp) ?_
                        refine AllReadyH.cons rfl (fun K hK => ?_) AllReadyH.nil
                        apply step_clz_one (Ls := Ls) (q := ⟨E, 0, []⟩) (base := wr.heap.size)
                        case hgd => rfl
                        case ho => rfl
                        case hty => rfl
                        case hs => rfl
                        case hown => exact unhide hO
                        case hbase => exact (unhide hbw).size
                        case hx => rfl
                        case hT => exact hT
                        case hl => omega
                        case' h => intro g8 c8 v8 o8 gr8 at8 lt8
                        have mv8 : Mov g5 _ v8 := mov_of_grown gr8
                        have zE : E < v8.heap.size := Nat.lt_of_lt_of_le zE mv8.size
                        have hD0 := mv8.cell hD0 (by simp only; omega)
                        have hD1 := mv8.cell hD1 (by simp only; omega)
                        have hDf0 := (World.frozen?_of_block (w := v10) (a := ⟨D, 0, none⟩) (mv8.2.2.2.2 D zD (by omega))).trans hDf0
                        have hDf1 := (World.frozen?_of_block (w := v10) (a := ⟨D, 1, none⟩) (mv8.2.2.2.2 D zD (by omega))).trans hDf1
                        have zD : D < v8.heap.size := Nat.lt_of_lt_of_le zD mv8.size
                        have p0 := mv8.cell p0 (by simp only; omega)
                        have p1 := mv8.cell p1 (by simp only; omega)
                        have hbw := hide ((unhide hbw).trans (mv8.below yg5 (unhide hbw).size))
                        have hF := hide o8
                        have zF := lt8
                        have ng8D : g8 ≠ D := by rcases at8 with e | e <;> omega
                        clear o8 gr8 at8 lt8 mv8 hO zO hT zT
                        refine hK.out _ _ ?_ (fun hHeld => ?_)
                        · exact ⟨p0, p1⟩
                        clear hK K
                        try simp only [List.getElem_toArray, List.getElem_cons_succ, List.getElem_cons_zero, Act.put, List.setIfInBounds_toArray, List.set_cons_zero, List.set_cons_succ]
                        refine wpAnyH_take (i := 9) (v := ?_) rfl (by kernel_rfl) (by kernel_rfl) (by kernel_rfl) (fun _ _ _ h => h) (Or.inl ⟨by rfl, ?_⟩) (by assumption) ?_
                        rotate_left
                        · (intro w hSw; (try dsimp only at hSw); first | (go_simp; done) | (go_simp; with_reducible rfl))
                        try simp only [List.getElem_toArray, List.getElem_cons_succ, List.getElem_cons_zero, Act.put, List.setIfInBounds_toArray, List.set_cons_zero, List.set_cons_succ]
                        refine wpAnyH_ready (rs := [11]) (by kernel_rfl) (by simp) ?_
                        refine AllReadyH.cons rfl (fun K hK => ?_) AllReadyH.nil
                        go_simp
                        refine hK.out _ _ ?_ (fun hHeld => ?_)
                        · exact ⟨by rw [World.cell?_setCell_other _ _ _ _ (by simp <;> omega), World.cell?_setCell_other _ _ _ _ (by simp <;> omega)]; exact p0, by rw [World.cell?_setCell_other _ _ _ _ (by simp <;> omega), World.cell?_setCell_other _ _ _ _ (by simp <;> omega)]; exact p1⟩
                        clear hK K
                        try simp only [List.getElem_toArray, List.getElem_cons_succ, List.getElem_cons_zero, Act.put, List.setIfInBounds_toArray, List.set_cons_zero, List.set_cons_succ]
                        refine wpAnyH_done (by kernel_rfl) ?_ _
                        have CF : ClzAt v8 0 (.slice (some ⟨g8, 0, none⟩) (Ls.length + 1) c8) (Ls ++ [⟨E, 0, []⟩]) := own_clz (unhide hF) (by have := own_base (unhide hF); omega) (fun q hq => by
                          rcases List.mem_append.1 hq with h | h
                          · exact ((unhide HC0).1 q h).later (unhide hbw)
                          · simp at h; subst h; exact ⟨by simp only; omega, zE, fun i hi => by simp at hi, by simp, fun x hx => by cases hx⟩)
                        have CG : ∀ q, q ∈ Ls ++ [⟨E, 0, []⟩] → q.g ≠ D := fun q hq => by
                          rcases List.mem_append.1 hq with h | h
                          · have := ((unhide HC0).1 q h).2.1; omega
                          · simp at h; subst h; simp only; omega
                        go_wp2_with fail
                        go_meet
                        exact ⟨D, g8, c8, E, rfl, by rw [World.cell?_setCell_other _ _ _ _ (by simp)]; exact World.cell?_setCell_same _ _ _ hD0, World.cell?_setCell_same _ _ _ (by rw [World.cell?_setCell_other _ _ _ _ (by simp)]; exact hD1), (CF.set CG (by simp [Value.ownBlock]; omega)).set CG (by simp [Value.ownBlock]; omega), (((unhide hbw).setCell yD _).setCell yD _)⟩
                    · go_simp
                      obtain ⟨v10, hv10⟩ : ∃ x, x = v5.alloc (.cells #[.int .i64 0, .slice none 0 0] 25) := ⟨_, rfl⟩
                      have b10 : Below v5.heap.size v5 v10 := by rw [hv10]; exact (Below.refl _ _).alloc (Nat.le_refl _) _
                      have e10 : v5.heap.size < v10.heap.size := by rw [hv10]; simp
                      have f10 : wr.heap.size ≤ v5.heap.size := (unhide hbw).size
                      have hO := hide (World.ownsRow.kept (w' := v10) (unhide hO) (grown_below b10) (by simp [Value.ownBlock]))
                      have zO : g5 < v10.heap.size := Nat.lt_of_lt_of_le zO b10.size
                      have zE : E < v10.heap.size := Nat.lt_of_lt_of_le zE b10.size
                      have hbw := hide ((unhide hbw).trans (b10.mono (unhide hbw).size))
                      have p0 := cell_later b10 p0
                      have p1 := cell_later b10 p1
                      have hD0 : v10.cell? ⟨v5.heap.size, 0, none⟩ = some (.int .i64 0) := by rw [hv10]; simp [go_sem]
                      have hD1 : v10.cell? ⟨v5.heap.size, 1, none⟩ = some (.slice none 0 0) := by rw [hv10]; simp [go_sem]
                      have hDf0 : v10.frozen? ⟨v5.heap.size, 0, none⟩ = false := by rw [hv10]; simp [go_sem]
                      have hDf1 : v10.frozen? ⟨v5.heap.size, 1, none⟩ = false := by rw [hv10]; simp [go_sem]
                      have ng5D : g5 ≠ v5.heap.size := by omega
                      have nED : E ≠ v5.heap.size := by omega
                      rw [← hv10]
                      obtain ⟨D, hDe⟩ : ∃ z, z = v5.heap.size := ⟨_, rfl⟩
                      rw [← hDe] at hD0 hD1 hDf0 hDf1 ng5D nED ⊢
                      have zD : D < v10.heap.size := by omega
                      have yD : wr.heap.size ≤ D := by omega
                      clear hv10 b10 e10 f10 hDe
                      refine hK.out _ _ ?_ (fun hHeld => ?_)
                      · exact ⟨p0, p1⟩
                      clear hK K
                      try simp only [List.getElem_toArray, List.getElem_cons_succ, List.getElem_cons_zero, Act.put, List.setIfInBounds_toArray, List.set_cons_zero, List.set_cons_succ]
                      refine wpAnyH_ready (rs := [7]) (by kernel_rfl) (by simp) ?_
                      refine AllReadyH.cons rfl (fun K hK => ?_) AllReadyH.nil
                      go_simp
                      obtain ⟨v7, hv7⟩ : ∃ x, x = v10.alloc (.cells #[.slice (some ⟨E, 0, none⟩) 0 0] 32) := ⟨_, rfl⟩
                      have b7 : Below v10.heap.size v10 v7 := by rw [hv7]; exact (Below.refl _ _).alloc (Nat.le_refl _) _
                      have e7 : v10.heap.size < v7.heap.size := by rw [hv7]; simp
                      have f7 : wr.heap.size ≤ v10.heap.size := (unhide hbw).size
                      have hO := hide (World.ownsRow.kept (w' := v7) (unhide hO) (grown_below b7) (by simp [Value.ownBlock]))
                      have hD0 := cell_later b7 hD0
                      have hD1 := cell_later b7 hD1
                      have hDf0 := (b7.frozen (p := ⟨D, 0, none⟩) zD).trans hDf0
                      have hDf1 := (b7.frozen (p := ⟨D, 1, none⟩) zD).trans hDf1
                      have zO : g5 < v7.heap.size := Nat.lt_of_lt_of_le zO b7.size
                      have zE : E < v7.heap.size := Nat.lt_of_lt_of_le zE b7.size
                      have zD : D < v7.heap.size := Nat.lt_of_lt_of_le zD b7.size
                      have hbw := hide ((unhide hbw).trans (b7.mono (unhide hbw).size))
                      have p0 := cell_later b7 p0
                      have p1 := cell_later b7 p1
                      have hT : v7.cell? ⟨v10.heap.size, 0, none⟩ = some (.slice (some ⟨E, 0, none⟩) 0 0) := by rw [hv7]; simp [go_sem]
                      have ng5T : g5 ≠ v10.heap.size := by omega
                      have nET : E ≠ v10.heap.size := by omega
                      have nDT : D ≠ v10.heap.size := by omega
                      rw [← hv7]
                      obtain ⟨T, hTe⟩ : ∃ z, z = v10.heap.size := ⟨_, rfl⟩
                      rw [← hTe] at hT ng5T nET nDT ⊢
                      have zT : T < v7.heap.size := by omega
                      have yT : wr.heap.size ≤ T := by omega
                      clear hv7 b7 e7 f7 hTe
                      refine hK.out _ _ ?_ (fun hHeld => ?_)
                      · exact ⟨p0, p1⟩
                      clear hK K
                      try simp only [List.getElem_toArray, List.getElem_cons_succ, List.getElem_cons_zero, Act.put, List.setIfInBounds_toArray, List.set_cons_zero, List.set_cons_succ]
                      refine wpAnyH_ready (rs := [8]) (by kernel_rfl) (by simp) ?_
                      refine AllReadyH.cons rfl (fun K hK => ?_) AllReadyH.nil
                      apply step_clz_one (Ls := Ls) (q := ⟨E, 0, []⟩) (base := wr.heap.size)
                      case hgd => rfl
                      case ho => rfl
                      case hty => rfl
                      case hs => rfl
                      case hown => exact unhide hO
                      case hbase => exact (unhide hbw).size
                      case hx => rfl
                      case hT => exact hT
                      case hl => omega
                      case' h => intro g8 c8 v8 o8 gr8 at8 lt8
                      have mv8 : Mov g5 _ v8 := mov_of_grown gr8
                      have zE : E < v8.heap.size := Nat.lt_of_lt_of_le zE mv8.size
                      have hD0 := mv8.cell hD0 (by simp only; omega)
                      have hD1 := mv8.cell hD1 (by simp only; omega)
                      have hDf0 := (World.frozen?_of_block (w := v7) (a := ⟨D, 0, none⟩) (mv8.2.2.2.2 D zD (by omega))).trans hDf0
                      have hDf1 := (World.frozen?_of_block (w := v7) (a := ⟨D, 1, none⟩) (mv8.2.2.2.2 D zD (by omega))).trans hDf1
                      have zD : D < v8.heap.size := Nat.lt_of_lt_of_le zD mv8.size
                      have p0 := mv8.cell p0 (by simp only; omega)
                      have p1 := mv8.cell p1 (by simp only; omega)
                      have hbw := hide ((unhide hbw).trans (mv8.below yg5 (unhide hbw).size))
                      have hF := hide o8
                      have zF := lt8
                      have ng8D : g8 ≠ D := by rcases at8 with e | e <;> omega
                      clear o8 gr8 at8 lt8 mv8 hO zO hT zT
                      refine hK.out _ _ ?_ (fun hHeld => ?_)
                      · exact ⟨p0, p1⟩
                      clear hK K
                      try simp only [List.getElem_toArray, List.getElem_cons_succ, List.getElem_cons_zero, Act.put, List.setIfInBounds_toArray, List.set_cons_zero, List.set_cons_succ]
                      refine wpAnyH_take (i := 9) (v := ?_) rfl (by kernel_rfl) (by kernel_rfl) (by kernel_rfl) (fun _ _ _ h => h) (Or.inl ⟨by rfl, ?_⟩) (by assumption) ?_
                      rotate_left
                      · (intro w hSw; (try dsimp only at hSw); first | (go_simp; done) | (go_simp; with_reducible rfl))
                      try simp only [List.getElem_toArray, List.getElem_cons_succ, List.getElem_cons_zero, Act.put, List.setIfInBounds_toArray, List.set_cons_zero, List.set_cons_succ]
                      refine wpAnyH_ready (rs := [11]) (by kernel_rfl) (by simp) ?_
                      refine AllReadyH.cons rfl (fun K hK => ?_) AllReadyH.nil
                      go_simp
                      refine hK.out _ _ ?_ (fun hHeld => ?_)
                      · exact ⟨by rw [World.cell?_setCell_other _ _ _ _ (by simp <;> omega), World.cell?_setCell_other _ _ _ _ (by simp <;> omega)]; exact p0, by rw [World.cell?_setCell_other _ _ _ _ (by simp <;> omega), World.cell?_setCell_other _ _ _ _ (by simp <;> omega)]; exact p1⟩
                      clear hK K
                      try simp only [List.getElem_toArray, List.getElem_cons_succ, List.getElem_cons_zero, Act.put, List.setIfInBounds_toArray, List.set_cons_zero, List.set_cons_succ]
                      refine wpAnyH_done (by kernel_rfl) ?_ _
                      have CF : ClzAt v8 0 (.slice (some ⟨g8, 0, none⟩) (Ls.length + 1) c8) (Ls ++ [⟨E, 0, []⟩]) := own_clz (unhide hF) (by have := own_base (unhide hF); omega) (fun q hq => by
                        rcases List.mem_append.1 hq with h | h
                        · exact ((unhide HC0).1 q h).later (unhide hbw)
                        · simp at h; subst h; exact ⟨by simp only; omega, zE, fun i hi => by simp at hi, by simp, fun x hx => by cases hx⟩)
                      have CG : ∀ q, q ∈ Ls ++ [⟨E, 0, []⟩] → q.g ≠ D := fun q hq => by
                        rcases List.mem_append.1 hq with h | h
                        · have := ((unhide HC0).1 q h).2.1; omega
                        · simp at h; subst h; simp only; omega
                      go_wp2_with fail
                      go_meet
                      exact ⟨D, g8, c8, E, rfl, by rw [World.cell?_setCell_other _ _ _ _ (by simp)]; exact World.cell?_setCell_same _ _ _ hD0, World.cell?_setCell_same _ _ _ (by rw [World.cell?_setCell_other _ _ _ _ (by simp)]; exact hD1), (CF.set CG (by simp [Value.ownBlock]; omega)).set CG (by simp [Value.ownBlock]; omega), (((unhide hbw).setCell yD _).setCell yD _)⟩
                  · go_simp
                    obtain ⟨v7, hv7⟩ : ∃ x, x = v2.alloc (.cells #[.slice (some ⟨E, 0, none⟩) 0 0] 32) := ⟨_, rfl⟩
                    have b7 : Below v2.heap.size v2 v7 := by rw [hv7]; exact (Below.refl _ _).alloc (Nat.le_refl _) _
                    have e7 : v2.heap.size < v7.heap.size := by rw [hv7]; simp
                    have f7 : wr.heap.size ≤ v2.heap.size := (unhide hbw).size
                    have hX : Hid (v7.heap[X]? = some (.cells #[] 32 (0, 0))) := (b7.block _ (by omega)).trans (unhide hX)
                    have zX : X < v7.heap.size := Nat.lt_of_lt_of_le zX b7.size
                    have zE : E < v7.heap.size := Nat.lt_of_lt_of_le zE b7.size
                    have hbw := hide ((unhide hbw).trans (b7.mono (unhide hbw).size))
                    have p0 := cell_later b7 p0
                    have p1 := cell_later b7 p1
                    have hT : v7.cell? ⟨v2.heap.size, 0, none⟩ = some (.slice (some ⟨E, 0, none⟩) 0 0) := by rw [hv7]; simp [go_sem]
                    have nXT : X ≠ v2.heap.size := by omega
                    have nET : E ≠ v2.heap.size := by omega
                    rw [← hv7]
                    obtain ⟨T, hTe⟩ : ∃ z, z = v2.heap.size := ⟨_, rfl⟩
                    rw [← hTe] at hT nXT nET ⊢
                    have zT : T < v7.heap.size := by omega
                    have yT : wr.heap.size ≤ T := by omega
                    clear hv7 b7 e7 f7 hTe
                    refine hK.out _ _ ?_ (fun hHeld => ?_)
                    · exact ⟨p0, p1⟩
                    clear hK K
                    try simp only [List.getElem_toArray, List.getElem_cons_succ, List.getElem_cons_zero, Act.put, List.setIfInBounds_toArray, List.set_cons_zero, List.set_cons_succ]
                    refine wpAnyH_ready (rs := [5, 10]) (by kernel_rfl) (by simp) ?_
                    refine AllReadyH.cons rfl (fun K hK => ?_) (AllReadyH.cons rfl (fun K hK => ?_) AllReadyH.nil)
                    · apply step_clz_copy (R := 0) (Ls := Ls) (base := wr.heap.size)
                      case hgd => rfl
                      case ho => rfl
                      case hty => rfl
                      case hs => rfl
                      case hX => exact unhide hX
                      case hbX => exact yX
                      case hbase => exact (unhide hbw).size
                      case hx => rfl
                      case hc => exact (unhide HC0).later (unhide hbw)
                      case hl => omega
                      case' h => intro g5 c5 v5 o5 gr5 at5 lt5
                      have mv5 : Mov X _ v5 := mov_of_grown gr5
                      have hT := mv5.cell hT (by simp only; omega)
                      have zT : T < v5.heap.size := Nat.lt_of_lt_of_le zT mv5.size
                      have zE : E < v5.heap.size := Nat.lt_of_lt_of_le zE mv5.size
                      have p0 := mv5.cell p0 (by simp only; omega)
                      have p1 := mv5.cell p1 (by simp only; omega)
                      have hbw := hide ((unhide hbw).trans (mv5.below yX (unhide hbw).size))
                      have hO := hide o5
                      have zO := lt5
                      have yg5 : wr.heap.size ≤ g5 := own_base o5
                      have ng5T : g5 ≠ T := by rcases at5 with e | e <;> omega
                      have ng5E : g5 ≠ E := by rcases at5 with e | e <;> omega
                      clear o5 gr5 at5 lt5 mv5 hX zX yX
                      refine hK.out _ _ ?_ (fun hHeld => ?_)
                      · exact ⟨p0, p1⟩
                      clear hK K
                      try simp only [List.getElem_toArray, List.getElem_cons_succ, List.getElem_cons_zero, Act.put, List.setIfInBounds_toArray, List.set_cons_zero, List.set_cons_succ]
                      refine wpAnyH_ready (rs := [8, 10]) (by kernel_rfl) (by simp) ?_
                      refine AllReadyH.cons rfl (fun K hK => ?_) (AllReadyH.cons rfl (fun K hK => ?_) AllReadyH.nil)
                      · apply step_clz_one (Ls := Ls) (q := ⟨E, 0, []⟩) (base := wr.heap.size)
                        case hgd => rfl
                        case ho => rfl
                        case hty => rfl
                        case hs => rfl
                        case hown => exact unhide hO
                        case hbase => exact (unhide hbw).size
                        case hx => rfl
                        case hT => exact hT
                        case hl => omega
                        case' h => intro g8 c8 v8 o8 gr8 at8 lt8
                        have mv8 : Mov g5 _ v8 := mov_of_grown gr8
                        have zE : E < v8.heap.size := Nat.lt_of_lt_of_le zE mv8.size
                        have p0 := mv8.cell p0 (by simp only; omega)
                        have p1 := mv8.cell p1 (by simp only; omega)
                        have hbw := hide ((unhide hbw).trans (mv8.below yg5 (unhide hbw).size))
                        have hF := hide o8
                        have zF := lt8
                        clear o8 gr8 at8 lt8 mv8 hO zO hT zT
                        refine hK.out _ _ ?_ (fun hHeld => ?_)
                        · exact ⟨p0, p1⟩
                        clear hK K
                        try simp only [List.getElem_toArray, List.getElem_cons_succ, List.getElem_cons_zero, Act.put, List.setIfInBounds_toArray, List.set_cons_zero, List.set_cons_succ]
                        refine wpAnyH_take (i := 9) (v := ?_) rfl (by kernel_rfl) (by kernel_rfl) (by kernel_rfl) (fun _ _ _ h => h) (Or.inl ⟨by rfl, ?_⟩) (by assumption) ?_
                        rotate_left
                        · (intro w hSw; (try dsimp only at hSw); first | (go_simp; done) | (go_simp; with_reducible rfl))
                        try simp only [List.getElem_toArray, List.getElem_cons_succ, List.getElem_cons_zero, Act.put, List.setIfInBounds_toArray, List.set_cons_zero, List.set_cons_succ]
                        refine wpAnyH_ready (rs := [10]) (by kernel_rfl) (by simp) ?_
                        refine AllReadyH.cons rfl (fun K hK => ?_) AllReadyH.nil
                        go_simp
                        obtain ⟨v10, hv10⟩ : ∃ x, x = v8.alloc (.cells #[.int .i64 0, .slice none 0 0] 25) := ⟨_, rfl⟩
                        have b10 : Below v8.heap.size v8 v10 := by rw [hv10]; exact (Below.refl _ _).alloc (Nat.le_refl _) _
                        have e10 : v8.heap.size < v10.heap.size := by rw [hv10]; simp
                        have f10 : wr.heap.size ≤ v8.heap.size := (unhide hbw).size
                        have hF := hide (World.ownsRow.kept (w' := v10) (unhide hF) (grown_below b10) (by simp [Value.ownBlock]))
                        have zF : g8 < v10.heap.size := Nat.lt_of_lt_of_le zF b10.size
                        have zE : E < v10.heap.size := Nat.lt_of_lt_of_le zE b10.size
                        have hbw := hide ((unhide hbw).trans (b10.mono (unhide hbw).size))
                        have p0 := cell_later b10 p0
                        have p1 := cell_later b10 p1
                        have hD0 : v10.cell? ⟨v8.heap.size, 0, none⟩ = some (.int .i64 0) := by rw [hv10]; simp [go_sem]
                        have hD1 : v10.cell? ⟨v8.heap.size, 1, none⟩ = some (.slice none 0 0) := by rw [hv10]; simp [go_sem]
                        have hDf0 : v10.frozen? ⟨v8.heap.size, 0, none⟩ = false := by rw [hv10]; simp [go_sem]
                        have hDf1 : v10.frozen? ⟨v8.heap.size, 1, none⟩ = false := by rw [hv10]; simp [go_sem]
                        have ng8D : g8 ≠ v8.heap.size := by omega
                        have nED : E ≠ v8.heap.size := by omega
                        rw [← hv10]
                        obtain ⟨D, hDe⟩ : ∃ z, z = v8.heap.size := ⟨_, rfl⟩
                        rw [← hDe] at hD0 hD1 hDf0 hDf1 ng8D nED ⊢
                        have zD : D < v10.heap.size := by omega
                        have yD : wr.heap.size ≤ D := by omega
                        clear hv10 b10 e10 f10 hDe
                        refine hK.out _ _ ?_ (fun hHeld => ?_)
                        · exact ⟨p0, p1⟩
                        clear hK K
                        try simp only [List.getElem_toArray, List.getElem_cons_succ, List.getElem_cons_zero, Act.put, List.setIfInBounds_toArray, List.set_cons_zero, List.set_cons_succ]
                        refine wpAnyH_ready (rs := [11]) (by kernel_rfl) (by simp) ?_
                        refine AllReadyH.cons rfl (fun K hK => ?_) AllReadyH.nil
                        go_simp
                        refine hK.out _ _ ?_ (fun hHeld => ?_)
                        · exact ⟨by rw [World.cell?_setCell_other _ _ _ _ (by simp <;> omega), World.cell?_setCell_other _ _ _ _ (by simp <;> omega)]; exact p0, by rw [World.cell?_setCell_other _ _ _ _ (by simp <;> omega), World.cell?_setCell_other _ _ _ _ (by simp <;> omega)]; exact p1⟩
                        clear hK K
                        try simp only [List.getElem_toArray, List.getElem_cons_succ, List.getElem_cons_zero, Act.put, List.setIfInBounds_toArray, List.set_cons_zero, List.set_cons_succ]
                        refine wpAnyH_done (by kernel_rfl) ?_ _
                        have CF : ClzAt v10 0 (.slice (some ⟨g8, 0, none⟩) (Ls.length + 1) c8) (Ls ++ [⟨E, 0, []⟩]) := own_clz (unhide hF) (by have := own_base (unhide hF); omega) (fun q hq => by
                          rcases List.mem_append.1 hq with h | h
                          · exact ((unhide HC0).1 q h).later (unhide hbw)
                          · simp at h; subst h; exact ⟨by simp only; omega, zE, fun i hi => by simp at hi, by simp, fun x hx => by cases hx⟩)
                        have CG : ∀ q, q ∈ Ls ++ [⟨E, 0, []⟩] → q.g ≠ D := fun q hq => by
                          rcases List.mem_append.1 hq with h | h
                          · have := ((unhide HC0).1 q h).2.1; omega
                          · simp at h; subst h; simp only; omega
                        go_wp2_with fail
                        go_meet
                        exact ⟨D, g8, c8, E, rfl, by rw [World.cell?_setCell_other _ _ _ _ (by simp)]; exact World.cell?_setCell_same _ _ _ hD0, World.cell?_setCell_same _ _ _ (by rw [World.cell?_setCell_other _ _ _ _ (by simp)]; exact hD1), (CF.set CG (by simp [Value.ownBlock]; omega)).set CG (by simp [Value.ownBlock]; omega), (((unhide hbw).setCell yD _).setCell yD _)⟩
                      · go_simp
                        obtain ⟨v10, hv10⟩ : ∃ x, x = v5.alloc (.cells #[.int .i64 0, .slice none 0 0] 25) := ⟨_, rfl⟩
                        have b10 : Below v5.heap.size v5 v10 := by rw [hv10]; exact (Below.refl _ _).alloc (Nat.le_refl _) _
                        have e10 : v5.heap.size < v10.heap.size := by rw [hv10]; simp
                        have f10 : wr.heap.size ≤ v5.heap.size := (unhide hbw).size
                        have hO := hide (World.ownsRow.kept (w' := v10) (unhide hO) (grown_below b10) (by simp [Value.ownBlock]))
                        have hT := cell_later b10 hT
                        have zO : g5 < v10.heap.size := Nat.lt_of_lt_of_le zO b10.size
                        have zT : T < v10.heap.size := Nat.lt_of_lt_of_le zT b10.size
                        have zE : E < v10.heap.size := Nat.lt_of_lt_of_le zE b10.size
                        have hbw := hide ((unhide hbw).trans (b10.mono (unhide hbw).size))
                        have p0 := cell_later b10 p0
                        have p1 := cell_later b10 p1
                        have hD0 : v10.cell? ⟨v5.heap.size, 0, none⟩ = some (.int .i64 0) := by rw [hv10]; simp [go_sem]
                        have hD1 : v10.cell? ⟨v5.heap.size, 1, none⟩ = some (.slice none 0 0) := by rw [hv10]; simp [go_sem]
                        have hDf0 : v10.frozen? ⟨v5.heap.size, 0, none⟩ = false := by rw [hv10]; simp [go_sem]
                        have hDf1 : v10.frozen? ⟨v5.heap.size, 1, none⟩ = false := by rw [hv10]; simp [go_sem]
                        have ng5D : g5 ≠ v5.heap.size := by omega
                        have nTD : T ≠ v5.heap.size := by omega
                        have nED : E ≠ v5.heap.size := by omega
                        rw [← hv10]
                        obtain ⟨D, hDe⟩ : ∃ z, z = v5.heap.size := ⟨_, rfl⟩
                        rw [← hDe] at hD0 hD1 hDf0 hDf1 ng5D nTD nED ⊢
                        have zD : D < v10.heap.size := by omega
                        have yD : wr.heap.size ≤ D := by omega
                        clear hv10 b10 e10 f10 hDe
                        refine hK.out _ _ ?_ (fun hHeld => ?_)
                        · exact ⟨p0, p1⟩
                        clear hK K
                        try simp only [List.getElem_toArray, List.getElem_cons_succ, List.getElem_cons_zero, Act.put, List.setIfInBounds_toArray, List.set_cons_zero, List.set_cons_succ]
                        refine wpAnyH_ready (rs := [8]) (by kernel_rfl) (by simp) ?_
                        refine AllReadyH.cons rfl (fun K hK => ?_) AllReadyH.nil
                        apply step_clz_one (Ls := Ls) (q := ⟨E, 0, []⟩) (base := wr.heap.size)
                        case hgd => rfl
                        case ho => rfl
                        case hty => rfl
                        case hs => rfl
                        case hown => exact unhide hO
                        case hbase => exact (unhide hbw).size
                        case hx => rfl
                        case hT => exact hT
                        case hl => omega
                        case' h => intro g8 c8 v8 o8 gr8 at8 lt8
                        have mv8 : Mov g5 _ v8 := mov_of_grown gr8
                        have zE : E < v8.heap.size := Nat.lt_of_lt_of_le zE mv8.size
                        have hD0 := mv8.cell hD0 (by simp only; omega)
                        have hD1 := mv8.cell hD1 (by simp only; omega)
                        have hDf0 := (World.frozen?_of_block (w := v10) (a := ⟨D, 0, none⟩) (mv8.2.2.2.2 D zD (by omega))).trans hDf0
                        have hDf1 := (World.frozen?_of_block (w := v10) (a := ⟨D, 1, none⟩) (mv8.2.2.2.2 D zD (by omega))).trans hDf1
                        have zD : D < v8.heap.size := Nat.lt_of_lt_of_le zD mv8.size
                        have p0 := mv8.cell p0 (by simp only; omega)
                        have p1 := mv8.cell p1 (by simp only; omega)
                        have hbw := hide ((unhide hbw).trans (mv8.below yg5 (unhide hbw).size))
                        have hF := hide o8
                        have zF := lt8
                        have ng8D : g8 ≠ D := by rcases at8 with e | e <;> omega
                        clear o8 gr8 at8 lt8 mv8 hO zO hT zT
                        refine hK.out _ _ ?_ (fun hHeld => ?_)
                        · exact ⟨p0, p1⟩
                        clear hK K
                        try simp only [List.getElem_toArray, List.getElem_cons_succ, List.getElem_cons_zero, Act.put, List.setIfInBounds_toArray, List.set_cons_zero, List.set_cons_succ]
                        refine wpAnyH_take (i := 9) (v := ?_) rfl (by kernel_rfl) (by kernel_rfl) (by kernel_rfl) (fun _ _ _ h => h) (Or.inl ⟨by rfl, ?_⟩) (by assumption) ?_
                        rotate_left
                        · (intro w hSw; (try dsimp only at hSw); first | (go_simp; done) | (go_simp; with_reducible rfl))
                        try simp only [List.getElem_toArray, List.getElem_cons_succ, List.getElem_cons_zero, Act.put, List.setIfInBounds_toArray, List.set_cons_zero, List.set_cons_succ]
                        refine wpAnyH_ready (rs := [11]) (by kernel_rfl) (by simp) ?_
                        refine AllReadyH.cons rfl (fun K hK => ?_) AllReadyH.nil
                        go_simp
                        refine hK.out _ _ ?_ (fun hHeld => ?_)
                        · exact ⟨by rw [World.cell?_setCell_other _ _ _ _ (by simp <;> omega), World.cell?_setCell_other _ _ _ _ (by simp <;> omega)]; exact p0, by rw [World.cell?_setCell_other _ _ _ _ (by simp <;> omega), World.cell?_setCell_other _ _ _ _ (by simp <;> omega)]; exact p1⟩
                        clear hK K
                        try simp only [List.getElem_toArray, List.getElem_cons_succ, List.getElem_cons_zero, Act.put, List.setIfInBounds_toArray, List.set_cons_zero, List.set_cons_succ]
                        refine wpAnyH_done (by kernel_rfl) ?_ _
                        have CF : ClzAt v8 0 (.slice (some ⟨g8, 0, none⟩) (Ls.length + 1) c8) (Ls ++ [⟨E, 0, []⟩]) := own_clz (unhide hF) (by have := own_base (unhide hF); omega) (fun q hq => by
                          rcases List.mem_append.1 hq with h | h
                          · exact ((unhide HC0).1 q h).later (unhide hbw)
                          · simp at h; subst h; exact ⟨by simp only; omega, zE, fun i hi => by simp at hi, by simp, fun x hx => by cases hx⟩)
                        have CG : ∀ q, q ∈ Ls ++ [⟨E, 0, []⟩] → q.g ≠ D := fun q hq => by
                          rcases List.mem_append.1 hq with h | h
                          · have := ((unhide HC0).1 q h).2.1; omega
                          · simp at h; subst h; simp only; omega
                        go_wp2_with fail
                        go_meet
                        exact ⟨D, g8, c8, E, rfl, by rw [World.cell?_setCell_other _ _ _ _ (by simp)]; exact World.cell?_setCell_same _ _ _ hD0, World.cell?_setCell_same _ _ _ (by rw [World.cell?_setCell_other _ _ _ _ (by simp)]; exact hD1), (CF.set CG (by simp [Value.ownBlock]; omega)).set CG (by simp [Value.ownBlock]; omega), (((unhide hbw).setCell yD _).setCell yD _)⟩
                    · go_simp
                      obtain ⟨v10, hv10⟩ : ∃ x, x = v7.alloc (.cells #[.int .i64 0, .slice none 0 0] 25) := ⟨_, rfl⟩
                      have b10 : Below v7.heap.size v7 v10 := by rw [hv10]; exact (Below.refl _ _).alloc (Nat.le_refl _) _
                      have e10 : v7.heap.size < v10.heap.size := by rw [hv10]; simp
                      have f10 : wr.heap.size ≤ v7.heap.size := (unhide hbw).size
                      have hX : Hid (v10.heap[X]? = some (.cells #[] 32 (0, 0))) := (b10.block _ (by omega)).trans (unhide hX)
                      have hT := cell_later b10 hT
                      have zX : X < v10.heap.size := Nat.lt_of_lt_of_le zX b10.size
                      have zT : T < v10.heap.size := Nat.lt_of_lt_of_le zT b10.size
                      have zE : E < v10.heap.size := Nat.lt_of_lt_of_le zE b10.size
                      have hbw := hide ((unhide hbw).trans (b10.mono (unhide hbw).size))
                      have p0 := cell_later b10 p0
                      have p1 := cell_later b10 p1
                      have hD0 : v10.cell? ⟨v7.heap.size, 0, none⟩ = some (.int .i64 0) := by rw [hv10]; simp [go_sem]
                      have hD1 : v10.cell? ⟨v7.heap.size, 1, none⟩ = some (.slice none 0 0) := by rw [hv10]; simp [go_sem]
                      have hDf0 : v10.frozen? ⟨v7.heap.size, 0, none⟩ = false := by rw [hv10]; simp [go_sem]
                      have hDf1 : v10.frozen? ⟨v7.heap.size, 1, none⟩ = false := by rw [hv10]; simp [go_sem]
                      have nXD : X ≠ v7.heap.size := by omega
                      have nTD : T ≠ v7.heap.size := by omega
                      have nED : E ≠ v7.heap.size := by omega
                      rw [← hv10]
                      obtain ⟨D, hDe⟩ : ∃ z, z = v7.heap.size := ⟨_, rfl⟩
                      rw [← hDe] at hD0 hD1 hDf0 hDf1 nXD nTD nED ⊢
                      have zD : D < v10.heap.size := by omega
                      have yD : wr.heap.size ≤ D := by omega
                      clear hv10 b10 e10 f10 hDe
                      refine hK.out _ _ ?_ (fun hHeld => ?_)
                      · exact ⟨p0, p1⟩
                      clear hK K
                      try simp only [List.getElem_toArray, List.getElem_cons_succ, List.getElem_cons_zero, Act.put, List.setIfInBounds_toArray, List.set_cons_zero, List.set_cons_succ]
                      refine wpAnyH_ready (rs := [5]) (by kernel_rfl) (by simp) ?_
                      refine AllReadyH.cons rfl (fun K hK => ?_) AllReadyH.nil
                      apply step_clz_copy (R := 0) (Ls := Ls) (base := wr.heap.size)
                      case hgd => rfl
                      case ho => rfl
                      case hty => rfl
                      case hs => rfl
                      case hX => exact unhide hX
                      case hbX => exact yX
                      case hbase => exact (unhide hbw).size
                      case hx => rfl
                      case hc => exact (unhide HC0).later (unhide hbw)
                      case hl => omega
                      case' h => intro g5 c5 v5 o5 gr5 at5 lt5
                      have mv5 : Mov X _ v5 := mov_of_grown gr5
                      have hT := mv5.cell hT (by simp only; omega)
                      have zT : T < v5.heap.size := Nat.lt_of_lt_of_le zT mv5.size
                      have zE : E < v5.heap.size := Nat.lt_of_lt_of_le zE mv5.size
                      have hD0 := mv5.cell hD0 (by simp only; omega)
                      have hD1 := mv5.cell hD1 (by simp only; omega)
                      have hDf0 := (World.frozen?_of_block (w := v10) (a := ⟨D, 0, none⟩) (mv5.2.2.2.2 D zD (by omega))).trans hDf0
                      have hDf1 := (World.frozen?_of_block (w := v10) (a := ⟨D, 1, none⟩) (mv5.2.2.2.2 D zD (by omega))).trans hDf1
                      have zD : D < v5.heap.size := Nat.lt_of_lt_of_le zD mv5.size
                      have p0 := mv5.cell p0 (by simp only; omega)
                      have p1 := mv5.cell p1 (by simp only; omega)
                      have hbw := hide ((unhide hbw).trans (mv5.below yX (unhide hbw).size))
                      have hO := hide o5
                      have zO := lt5
                      have yg5 : wr.heap.size ≤ g5 := own_base o5
                      have ng5T : g5 ≠ T := by rcases at5 with e | e <;> omega
                      have ng5E : g5 ≠ E := by rcases at5 with e | e <;> omega
                      have ng5D : g5 ≠ D := by rcases at5 with e | e <;> omega
                      clear o5 gr5 at5 lt5 mv5 hX zX yX
                      refine hK.out _ _ ?_ (fun hHeld => ?_)
                      · exact ⟨p0, p1⟩
                      clear hK K
                      try simp only [List.getElem_toArray, List.getElem_cons_succ, List.getElem_cons_zero, Act.put, List.setIfInBounds_toArray, List.set_cons_zero, List.set_cons_succ]
                      refine wpAnyH_ready (rs := [8]) (by kernel_rfl) (by simp) ?_
                      refine AllReadyH.cons rfl (fun K hK => ?_) AllReadyH.nil
                      apply step_clz_one (Ls := Ls) (q := ⟨E, 0, []⟩) (base := wr.heap.size)
                      case hgd => rfl
                      case ho => rfl
                      case hty => rfl
                      case hs => rfl
                      case hown => exact unhide hO
                      case hbase => exact (unhide hbw).size
                      case hx => rfl
                      case hT => exact hT
                      case hl => omega
                      case' h => intro g8 c8 v8 o8 gr8 at8 lt8
                      have mv8 : Mov g5 _ v8 := mov_of_grown gr8
                      have zE : E < v8.heap.size := Nat.lt_of_lt_of_le zE mv8.size
                      have hD0 := mv8.cell hD0 (by simp only; omega)
                      have hD1 := mv8.cell hD1 (by simp only; omega)
                      have hDf0 := (World.frozen?_of_block (w := v5) (a := ⟨D, 0, none⟩) (mv8.2.2.2.2 D zD (by omega))).trans hDf0
                      have hDf1 := (World.frozen?_of_block (w := v5) (a := ⟨D, 1, none⟩) (mv8.2.2.2.2 D zD (by omega))).trans hDf1
                      have zD : D < v8.heap.size := Nat.lt_of_lt_of_le zD mv8.size
                      have p0 := mv8.cell p0 (by simp only; omega)
                      have p1 := mv8.cell p1 (by simp only; omega)
                      have hbw := hide ((unhide hbw).trans (mv8.below yg5 (unhide hbw).size))
                      have hF := hide o8
                      have zF := lt8
                      have ng8D : g8 ≠ D := by rcases at8 with e | e <;> omega
                      clear o8 gr8 at8 lt8 mv8 hO zO hT zT
                      refine hK.out _ _ ?_ (fun hHeld => ?_)
                      · exact ⟨p0, p1⟩
                      clear hK K
                      try simp only [List.getElem_toArray, List.getElem_cons_succ, List.getElem_cons_zero, Act.put, List.setIfInBounds_toArray, List.set_cons_zero, List.set_cons_succ]
                      refine wpAnyH_take (i := 9) (v := ?_) rfl (by kernel_rfl) (by kernel_rfl) (by kernel_rfl) (fun _ _ _ h => h) (Or.inl ⟨by rfl, ?_⟩) (by assumption) ?_
                      rotate_left
                      · (intro w hSw; (try dsimp only at hSw); first | (go_simp; done) | (go_simp; with_reducible rfl))
                      try simp only [List.getElem_toArray, List.getElem_cons_succ, List.getElem_cons_zero, Act.put, List.setIfInBounds_toArray, List.set_cons_zero, List.set_cons_succ]
                      refine wpAnyH_ready (rs := [11]) (by kernel_rfl) (by simp) ?_
                      refine AllReadyH.cons rfl (fun K hK => ?_) AllReadyH.nil
                      go_simp
                      refine hK.out _ _ ?_ (fun hHeld => ?_)
                      · exact ⟨by rw [World.cell?_setCell_other _ _ _ _ (by simp <;> omega), World.cell?_setCell_other _ _ _ _ (by simp <;> omega)]; exact p0, by rw [World.cell?_setCell_other _ _ _ _ (by simp <;> omega), World.cell?_setCell_other _ _ _ _ (by simp <;> omega)]; exact p1⟩
                      clear hK K
                      try simp only [List.getElem_toArray, List.getElem_cons_succ, List.getElem_cons_zero, Act.put, List.setIfInBounds_toArray, List.set_cons_zero, List.set_cons_succ]
                      refine wpAnyH_done (by kernel_rfl) ?_ _
                      have CF : ClzAt v8 0 (.slice (some ⟨g8, 0, none⟩) (Ls.length + 1) c8) (Ls ++ [⟨E, 0, []⟩]) := own_clz (unhide hF) (by have := own_base (unhide hF); omega) (fun q hq => by
                        rcases List.mem_append.1 hq with h | h
                        · exact ((unhide HC0).1 q h).later (unhide hbw)
                        · simp at h; subst h; exact ⟨by simp only; omega, zE, fun i hi => by simp at hi, by simp, fun x hx => by cases hx⟩)
                      have CG : ∀ q, q ∈ Ls ++ [⟨E, 0, []⟩] → q.g ≠ D := fun q hq => by
                        rcases List.mem_append.1 hq with h | h
                        · have := ((unhide HC0).1 q h).2.1; omega
                        · simp at h; subst h; simp only; omega
                      go_wp2_with fail
                      go_meet
                      exact ⟨D, g8, c8, E, rfl, by rw [World.cell?_setCell_other _ _ _ _ (by simp)]; exact World.cell?_setCell_same _ _ _ hD0, World.cell?_setCell_same _ _ _ (by rw [World.cell?_setCell_other _ _ _ _ (by simp)]; exact hD1), (CF.set CG (by simp [Value.ownBlock]; omega)).set CG (by simp [Value.ownBlock]; omega), (((unhide hbw).setCell yD _).setCell yD _)⟩
                  · go_simp
                    obtain ⟨v10, hv10⟩ : ∃ x, x = v2.alloc (.cells #[.int .i64 0, .slice none 0 0] 25) := ⟨_, rfl⟩
                    have b10 : Below v2.heap.size v2 v10 := by rw [hv10]; exact (Below.refl _ _).alloc (Nat.le_refl _) _
                    have e10 : v2.heap.size < v10.heap.size := by rw [hv10]; simp
                    have f10 : wr.heap.size ≤ v2.heap.size := (unhide hbw).size
                    have hX : Hid (v10.heap[X]? = some (.cells #[] 32 (0, 0))) := (b10.block _ (by omega)).trans (unhide hX)
                    have zX : X < v10.heap.size := Nat.lt_of_lt_of_le zX b10.size
                    have zE : E < v10.heap.size := Nat.lt_of_lt_of_le zE b10.size
                    have hbw := hide ((unhide hbw).trans (b10.mono (unhide hbw).size))
                    have p0 := cell_later b10 p0
                    have p1 := cell_later b10 p1
                    have hD0 : v10.cell? ⟨v2.heap.size, 0, none⟩ = some (.int .i64 0) := by rw [hv10]; simp [go_sem]
                    have hD1 : v10.cell? ⟨v2.heap.size, 1, none⟩ = some (.slice none 0 0) := by rw [hv10]; simp [go_sem]
                    have hDf0 : v10.frozen? ⟨v2.heap.size, 0, none⟩ = false := by rw [hv10]; simp [go_sem]
                    have hDf1 : v10.frozen? ⟨v2.heap.size, 1, none⟩ = false := by rw [hv10]; simp [go_sem]
                    have nXD : X ≠ v2.heap.size := by omega
                    have nED : E ≠ v2.heap.size := by omega
                    rw [← hv10]
                    obtain ⟨D, hDe⟩ : ∃ z, z = v2.heap.size := ⟨_, rfl⟩
                    rw [← hDe] at hD0 hD1 hDf0 hDf1 nXD nED ⊢
                    have zD : D < v10.heap.size := by omega
                    have yD : wr.heap.size ≤ D := by omega
                    clear hv10 b10 e10 f10 hDe
                    refine hK.out _ _ ?_ (fun hHeld => ?_)
                    · exact ⟨p0, p1⟩
                    clear hK K
                    try simp only [List.getElem_toArray, List.getElem_cons_succ, List.getElem_cons_zero, Act.put, List.setIfInBounds_toArray, List.set_cons_zero, List.set_cons_succ]
                    refine wpAnyH_ready (rs := [5, 7]) (by kernel_rfl) (by simp) ?_
                    refine AllReadyH.cons rfl (fun K hK => ?_) (AllReadyH.cons rfl (fun K hK => ?_) AllReadyH.nil)
                    · apply step_clz_copy (R := 0) (Ls := Ls) (base := wr.heap.size)
                      case hgd => rfl
                      case ho => rfl
                      case hty => rfl
                      case hs => rfl
                      case hX => exact unhide hX
                      case hbX => exact yX
                      case hbase => exact (unhide hbw).size
                      case hx => rfl
                      case hc => exact (unhide HC0).later (unhide hbw)
                      case hl => omega
                      case' h => intro g5 c5 v5 o5 gr5 at5 lt5
                      have mv5 : Mov X _ v5 := mov_of_grown gr5
                      have zE : E < v5.heap.size := Nat.lt_of_lt_of_le zE mv5.size
                      have hD0 := mv5.cell hD0 (by simp only; omega)
                      have hD1 := mv5.cell hD1 (by simp only; omega)
                      have hDf0 := (World.frozen?_of_block (w := v10) (a := ⟨D, 0, none⟩) (mv5.2.2.2.2 D zD (by omega))).trans hDf0
                      have hDf1 := (World.frozen?_of_block (w := v10) (a := ⟨D, 1, none⟩) (mv5.2.2.2.2 D zD (by omega))).trans hDf1
                      have zD : D < v5.heap.size := Nat.lt_of_lt_of_le zD mv5.size
                      have p0 := mv5.cell p0 (by simp only; omega)
                      have p1 := mv5.cell p1 (by simp only; omega)
                      have hbw := hide ((unhide hbw).trans (mv5.below yX (unhide hbw).size))
                      have hO := hide o5
                      have zO := lt5
                      have yg5 : wr.heap.size ≤ g5 := own_base o5
                      have ng5E : g5 ≠ E := by rcases at5 with e | e <;> omega
                      have ng5D : g5 ≠ D := by rcases at5 with e | e <;> omega
                      clear o5 gr5 at5 lt5 mv5 hX zX yX
                      refine hK.out _ _ ?_ (fun hHeld => ?_)
                      · exact ⟨p0, p1⟩
                      clear hK K
                      try simp only [List.getElem_toArray, List.getElem_cons_succ, List.getElem_cons_zero, Act.put, List.setIfInBounds_toArray, List.set_cons_zero, List.set_cons_succ]
                      refine wpAnyH_ready (rs := [7]) (by kernel_rfl) (by simp) ?_
                      refine AllReadyH.cons rfl (fun K hK => ?_) AllReadyH.nil
                      go_simp
                      obtain ⟨v7, hv7⟩ : ∃ x, x = v5.alloc (.cells #[.slice (some ⟨E, 0, none⟩) 0 0] 32) := ⟨_, rfl⟩
                      have b7 : Below v5.heap.size v5 v7 := by rw [hv7]; exact (Below.refl _ _).alloc (Nat.le_refl _) _
                      have e7 : v5.heap.size < v7.heap.size := by rw [hv7]; simp
                      have f7 : wr.heap.size ≤ v5.heap.size := (unhide hbw).size
                      have hO := hide (World.ownsRow.kept (w' := v7) (unhide hO) (grown_below b7) (by simp [Value.ownBlock]))
                      have hD0 := cell_later b7 hD0
                      have hD1 := cell_later b7 hD1
                      have hDf0 := (b7.frozen (p := ⟨D, 0, none⟩) zD).trans hDf0
                      have hDf1 := (b7.frozen (p := ⟨D, 1, none⟩) zD).trans hDf1
                      have zO : g5 < v7.heap.size := Nat.lt_of_lt_of_le zO b7.size
                      have zE : E < v7.heap.size := Nat.lt_of_lt_of_le zE b7.size
                      have zD : D < v7.heap.size := Nat.lt_of_lt_of_le zD b7.size
                      have hbw := hide ((unhide hbw).trans (b7.mono (unhide hbw).size))
                      have p0 := cell_later b7 p0
                      have p1 := cell_later b7 p1
                      have hT : v7.cell? ⟨v5.heap.size, 0, none⟩ = some (.slice (some ⟨E, 0, none⟩) 0 0) := by rw [hv7]; simp [go_sem]
                      have ng5T : g5 ≠ v5.heap.size := by omega
                      have nET : E ≠ v5.heap.size := by omega
                      have nDT : D ≠ v5.heap.size := by omega
                      rw [← hv7]
                      obtain ⟨T, hTe⟩ : ∃ z, z = v5.heap.size := ⟨_, rfl⟩
                      rw [← hTe] at hT ng5T nET nDT ⊢
                      have zT : T < v7.heap.size := by omega
                      have yT : wr.heap.size ≤ T := by omega
                      clear hv7 b7 e7 f7 hTe
                      refine hK.out _ _ ?_ (fun hHeld => ?_)
                      · exact ⟨p0, p1⟩
                      clear hK K
                      try simp only [List.getElem_toArray, List.getElem_cons_succ, List.getElem_cons_zero, Act.put, List.setIfInBounds_toArray, List.set_cons_zero, List.set_cons_succ]
                      refine wpAnyH_ready (rs := [8]) (by kernel_rfl) (by simp) ?_
                      refine AllReadyH.cons rfl (fun K hK => ?_) AllReadyH.nil
                      apply step_clz_one (Ls := Ls) (q := ⟨E, 0, []⟩) (base := wr.heap.size)
                      case hgd => rfl
                      case ho => rfl
                      case hty => rfl
                      case hs => rfl
                      case hown => exact unhide hO
                      case hbase => exact (unhide hbw).size
                      case hx => rfl
                      case hT => exact hT
                      case hl => omega
                      case' h => intro g8 c8 v8 o8 gr8 at8 lt8
                      have mv8 : Mov g5 _ v8 := mov_of_grown gr8
                      have zE : E < v8.heap.size := Nat.lt_of_lt_of_le zE mv8.size
                      have hD0 := mv8.cell hD0 (by simp only; omega)
                      have hD1 := mv8.cell hD1 (by simp only; omega)
                      have hDf0 := (World.frozen?_of_block (w := v7) (a := ⟨D, 0, none⟩) (mv8.2.2.2.2 D zD (by omega))).trans hDf0
                      have hDf1 := (World.frozen?_of_block (w := v7) (a := ⟨D, 1, none⟩) (mv8.2.2.2.2 D zD (by omega))).trans hDf1
                      have zD : D < v8.heap.size := Nat.lt_of_lt_of_le zD mv8.size
                      have p0 := mv8.cell p0 (by simp only; omega)
                      have p1 := mv8.cell p1 (by simp only; omega)
                      have hbw := hide ((unhide hbw).trans (mv8.below yg5 (unhide hbw).size))
                      have hF := hide o8
                      have zF := lt8
                      have ng8D : g8 ≠ D := by rcases at8 with e | e <;> omega
                      clear o8 gr8 at8 lt8 mv8 hO zO hT zT
                      refine hK.out _ _ ?_ (fun hHeld => ?_)
                      · exact ⟨p0, p1⟩
                      clear hK K
                      try simp only [List.getElem_toArray, List.getElem_cons_succ, List.getElem_cons_zero, Act.put, List.setIfInBounds_toArray, List.set_cons_zero, List.set_cons_succ]
                      refine wpAnyH_take (i := 9) (v := ?_) rfl (by kernel_rfl) (by kernel_rfl) (by kernel_rfl) (fun _ _ _ h => h) (Or.inl ⟨by rfl, ?_⟩) (by assumption) ?_
                      rotate_left
                      · (intro w hSw; (try dsimp only at hSw); first | (go_simp; done) | (go_simp; with_reducible rfl))
                      try simp only [List.getElem_toArray, List.getElem_cons_succ, List.getElem_cons_zero, Act.put, List.setIfInBounds_toArray, List.set_cons_zero, List.set_cons_succ]
                      refine wpAnyH_ready (rs := [11]) (by kernel_rfl) (by simp) ?_
                      refine AllReadyH.cons rfl (fun K hK => ?_) AllReadyH.nil
                      go_simp
                      refine hK.out _ _ ?_ (fun hHeld => ?_)
                      · exact ⟨by rw [World.cell?_setCell_other _ _ _ _ (by simp <;> omega), World.cell?_setCell_other _ _ _ _ (by simp <;> omega)]; exact p0, by rw [World.cell?_setCell_other _ _ _ _ (by simp <;> omega), World.cell?_setCell_other _ _ _ _ (by simp <;> omega)]; exact p1⟩
                      clear hK K
                      try simp only [List.getElem_toArray, List.getElem_cons_succ, List.getElem_cons_zero, Act.put, List.setIfInBounds_toArray, List.set_cons_zero, List.set_cons_succ]
                      refine wpAnyH_done (by kernel_rfl) ?_ _
                      have CF : ClzAt v8 0 (.slice (some ⟨g8, 0, none⟩) (Ls.length + 1) c8) (Ls ++ [⟨E, 0, []⟩]) := own_clz (unhide hF) (by have := own_base (unhide hF); omega) (fun q hq => by
                        rcases List.mem_append.1 hq with h | h
                        · exact ((unhide HC0).1 q h).later (unhide hbw)
                        · simp at h; subst h; exact ⟨by simp only; omega, zE, fun i hi => by simp at hi, by simp, fun x hx => by cases hx⟩)
                      have CG : ∀ q, q ∈ Ls ++ [⟨E, 0, []⟩] → q.g ≠ D := fun q hq => by
                        rcases List.mem_append.1 hq with h | h
                        · have := ((unhide HC0).1 q h).2.1; omega
                        · simp at h; subst h; simp only; omega
                      go_wp2_with fail
                      go_meet
                      exact ⟨D, g8, c8, E, rfl, by rw [World.cell?_setCell_other _ _ _ _ (by simp)]; exact World.cell?_setCell_same _ _ _ hD0, World.cell?_setCell_same _ _ _ (by rw [World.cell?_setCell_other _ _ _ _ (by simp)]; exact hD1), (CF.set CG (by simp [Value.ownBlock]; omega)).set CG (by simp [Value.ownBlock]; omega), (((unhide hbw).setCell yD _).setCell yD _)⟩
                    · go_simp
                      obtain ⟨v7, hv7⟩ : ∃ x, x = v10.alloc (.cells #[.slice (some ⟨E, 0, none⟩) 0 0] 32) := ⟨_, rfl⟩
                      have b7 : Below v10.heap.size v10 v7 := by rw [hv7]; exact (Below.refl _ _).alloc (Nat.le_refl _) _
                      have e7 : v10.heap.size < v7.heap.size := by rw [hv7]; simp
                      have f7 : wr.heap.size ≤ v10.heap.size := (unhide hbw).size
                      have hX : Hid (v7.heap[X]? = some (.cells #[] 32 (0, 0))) := (b7.block _ (by omega)).trans (unhide hX)
                      have hD0 := cell_later b7 hD0
                      have hD1 := cell_later b7 hD1
                      have hDf0 := (b7.frozen (p := ⟨D, 0, none⟩) zD).trans hDf0
                      have hDf1 := (b7.frozen (p := ⟨D, 1, none⟩) zD).trans hDf1
                      have zX : X < v7.heap.size := Nat.lt_of_lt_of_le zX b7.size
                      have zE : E < v7.heap.size := Nat.lt_of_lt_of_le zE b7.size
                      have zD : D < v7.heap.size := Nat.lt_of_lt_of_le zD b7.size
                      have hbw := hide ((unhide hbw).trans (b7.mono (unhide hbw).size))
                      have p0 := cell_later b7 p0
                      have p1 := cell_later b7 p1
                      have hT : v7.cell? ⟨v10.heap.size, 0, none⟩ = some (.slice (some ⟨E, 0, none⟩) 0 0) := by rw [hv7]; simp [go_sem]
                      have nXT : X ≠ v10.heap.size := by omega
                      have nET : E ≠ v10.heap.size := by omega
                      have nDT : D ≠ v10.heap.size := by omega
                      rw [← hv7]
                      obtain ⟨T, hTe⟩ : ∃ z, z = v10.heap.size := ⟨_, rfl⟩
                      rw [← hTe] at hT nXT nET nDT ⊢
                      have zT : T < v7.heap.size := by omega
                      have yT : wr.heap.size ≤ T := by omega
                      clear hv7 b7 e7 f7 hTe
                      refine hK.out _ _ ?_ (fun hHeld => ?_)
                      · exact ⟨p0, p1⟩
                      clear hK K
                      try simp only [List.getElem_toArray, List.getElem_cons_succ, List.getElem_cons_zero, Act.put, List.setIfInBounds_toArray, List.set_cons_zero, List.set_cons_succ]
                      refine wpAnyH_ready (rs := [5]) (by kernel_rfl) (by simp) ?_
                      refine AllReadyH.cons rfl (fun K hK => ?_) AllReadyH.nil
                      apply step_clz_copy (R := 0) (Ls := Ls) (base := wr.heap.size)
                      case hgd => rfl
                      case ho => rfl
                      case hty => rfl
                      case hs => rfl
                      case hX => exact unhide hX
                      case hbX => exact yX
                      case hbase => exact (unhide hbw).size
                      case hx => rfl
                      case hc => exact (unhide HC0).later (unhide hbw)
                      case hl => omega
                      case' h => intro g5 c5 v5 o5 gr5 at5 lt5
                      have mv5 : Mov X _ v5 := mov_of_grown gr5
                      have hT := mv5.cell hT (by simp only; omega)
                      have zT : T < v5.heap.size := Nat.lt_of_lt_of_le zT mv5.size
                      have zE : E < v5.heap.size := Nat.lt_of_lt_of_le zE mv5.size
                      have hD0 := mv5.cell hD0 (by simp only; omega)
                      have hD1 := mv5.cell hD1 (by simp only; omega)
                      have hDf0 := (World.frozen?_of_block (w := v7) (a := ⟨D, 0, none⟩) (mv5.2.2.2.2 D zD (by omega))).trans hDf0
                      have hDf1 := (World.frozen?_of_block (w := v7) (a := ⟨D, 1, none⟩) (mv5.2.2.2.2 D zD (by omega))).trans hDf1
                      have zD : D < v5.heap.size := Nat.lt_of_lt_of_le zD mv5.size
                      have p0 := mv5.cell p0 (by simp only; omega)
                      have p1 := mv5.cell p1 (by simp only; omega)
                      have hbw := hide ((unhide hbw).trans (mv5.below yX (unhide hbw).size))
                      have hO := hide o5
                      have zO := lt5
                      have yg5 : wr.heap.size ≤ g5 := own_base o5
                      have ng5T : g5 ≠ T := by rcases at5 with e | e <;> omega
                      have ng5E : g5 ≠ E := by rcases at5 with e | e <;> omega
                      have ng5D : g5 ≠ D := by rcases at5 with e | e <;> omega
                      clear o5 gr5 at5 lt5 mv5 hX zX yX
                      refine hK.out _ _ ?_ (fun hHeld => ?_)
                      · exact ⟨p0, p1⟩
                      clear hK K
                      try simp only [List.getElem_toArray, List.getElem_cons_succ, List.getElem_cons_zero, Act.put, List.setIfInBounds_toArray, List.set_cons_zero, List.set_cons_succ]
                      refine wpAnyH_ready (rs := [8]) (by kernel_rfl) (by simp) ?_
                      refine AllReadyH.cons rfl (fun K hK => ?_) AllReadyH.nil
                      apply step_clz_one (Ls := Ls) (q := ⟨E, 0, []⟩) (base := wr.heap.size)
                      case hgd => rfl
                      case ho => rfl
                      case hty => rfl
                      case hs => rfl
                      case hown => exact unhide hO
                      case hbase => exact (unhide hbw).size
                      case hx => rfl
                      case hT => exact hT
                      case hl => omega
                      case' h => intro g8 c8 v8 o8 gr8 at8 lt8
                      have mv8 : Mov g5 _ v8 := mov_of_grown gr8
                      have zE : E < v8.heap.size := Nat.lt_of_lt_of_le zE mv8.size
                      have hD0 := mv8.cell hD0 (by simp only; omega)
                      have hD1 := mv8.cell hD1 (by simp only; omega)
                      have hDf0 := (World.frozen?_of_block (w := v5) (a := ⟨D, 0, none⟩) (mv8.2.2.2.2 D zD (by omega))).trans hDf0
                      have hDf1 := (World.frozen?_of_block (w := v5) (a := ⟨D, 1, none⟩) (mv8.2.2.2.2 D zD (by omega))).trans hDf1
                      have zD : D < v8.heap.size := Nat.lt_of_lt_of_le zD mv8.size
                      have p0 := mv8.cell p0 (by simp only; omega)
                      have p1 := mv8.cell p1 (by simp only; omega)
                      have hbw := hide ((unhide hbw).trans (mv8.below yg5 (unhide hbw).size))
                      have hF := hide o8
                      have zF := lt8
                      have ng8D : g8 ≠ D := by rcases at8 with e | e <;> omega
                      clear o8 gr8 at8 lt8 mv8 hO zO hT zT
                      refine hK.out _ _ ?_ (fun hHeld => ?_)
                      · exact ⟨p0, p1⟩
                      clear hK K
                      try simp only [List.getElem_toArray, List.getElem_cons_succ, List.getElem_cons_zero, Act.put, List.setIfInBounds_toArray, List.set_cons_zero, List.set_cons_succ]
                      refine wpAnyH_take (i := 9) (v := ?_) rfl (by kernel_rfl) (by kernel_rfl) (by kernel_rfl) (fun _ _ _ h => h) (Or.inl ⟨by rfl, ?_⟩) (by assumption) ?_
                      rotate_left
                      · (intro w hSw; (try dsimp only at hSw); first | (go_simp; done) | (go_simp; with_reducible rfl))
                      try simp only [List.getElem_toArray, List.getElem_cons_succ, List.getElem_cons_zero, Act.put, List.setIfInBounds_toArray, List.set_cons_zero, List.set_cons_succ]
                      refine wpAnyH_ready (rs := [11]) (by kernel_rfl) (by simp) ?_
                      refine AllReadyH.cons rfl (fun K hK => ?_) AllReadyH.nil
                      go_simp
                      refine hK.out _ _ ?_ (fun hHeld => ?_)
                      · exact ⟨by rw [World.cell?_setCell_other _ _ _ _ (by simp <;> omega), World.cell?_setCell_other _ _ _ _ (by simp <;> omega)]; exact p0, by rw [World.cell?_setCell_other _ _ _ _ (by simp <;> omega), World.cell?_setCell_other _ _ _ _ (by simp <;> omega)]; exact p1⟩
                      clear hK K
                      try simp only [List.getElem_toArray, List.getElem_cons_succ, List.getElem_cons_zero, Act.put, List.setIfInBounds_toArray, List.set_cons_zero, List.set_cons_succ]
                      refine wpAnyH_done (by kernel_rfl) ?_ _
                      have CF : ClzAt v8 0 (.slice (some ⟨g8, 0, none⟩) (Ls.length + 1) c8) (Ls ++ [⟨E, 0, []⟩]) := own_clz (unhide hF) (by have := own_base (unhide hF); omega) (fun q hq => by
                        rcases List.mem_append.1 hq with h | h
                        · exact ((unhide HC0).1 q h).later (unhide hbw)
                        · simp at h; subst h; exact ⟨by simp only; omega, zE, fun i hi => by simp at hi, by simp, fun x hx => by cases hx⟩)
                      have CG : ∀ q, q ∈ Ls ++ [⟨E, 0, []⟩] → q.g ≠ D := fun q hq => by
                        rcases List.mem_append.1 hq with h | h
                        · have := ((unhide HC0).1 q h).2.1; omega
                        · simp at h; subst h; simp only; omega
                      go_wp2_with fail
                      go_meet
                      exact ⟨D, g8, c8, E, rfl, by rw [World.cell?_setCell_other _ _ _ _ (by simp)]; exact World.cell?_setCell_same _ _ _ hD0, World.cell?_setCell_same _ _ _ (by rw [World.cell?_setCell_other _ _ _ _ (by simp)]; exact hD1), (CF.set CG (by simp [Value.ownBlock]; omega)).set CG (by simp [Value.ownBlock]; omega), (((unhide hbw).setCell yD _).setCell yD _)⟩
                · go_simp
                  obtain ⟨v7, hv7⟩ : ∃ x, x = v6.alloc (.cells #[.slice (some ⟨E, 0, none⟩) 0 0] 32) := ⟨_, rfl⟩
                  have b7 : Below v6.heap.size v6 v7 := by rw [hv7]; exact (Below.refl _ _).alloc (Nat.le_refl _) _
                  have e7 : v6.heap.size < v7.heap.size := by rw [hv7]; simp
                  have f7 : wr.heap.size ≤ v6.heap.size := (unhide hbw).size
                  have zE : E < v7.heap.size := Nat.lt_of_lt_of_le zE b7.size
                  have hbw := hide ((unhide hbw).trans (b7.mono (unhide hbw).size))
                  have p0 := cell_later b7 p0
                  have p1 := cell_later b7 p1
                  have hT : v7.cell? ⟨v6.heap.size, 0, none⟩ = some (.slice (some ⟨E, 0, none⟩) 0 0) := by rw [hv7]; simp [go_sem]
                  have nET : E ≠ v6.heap.size := by omega
                  rw [← hv7]
                  obtain ⟨T, hTe⟩ : ∃ z, z = v6.heap.size := ⟨_, rfl⟩
                  rw [← hTe] at hT nET ⊢
                  have zT : T < v7.heap.size := by omega
                  have yT : wr.heap.size ≤ T := by omega
                  clear hv7 b7 e7 f7 hTe
                  refine hK.out _ _ ?_ (fun hHeld => ?_)
                  · exact ⟨p0, p1⟩
                  clear hK K
                  try simp only [List.getElem_toArray, List.getElem_cons_succ, List.getElem_cons_zero, Act.put, List.setIfInBounds_toArray, List.set_cons_zero, List.set_cons_succ]
                  refine wpAnyH_ready (rs := [2, 10]) (by kernel_rfl) (by simp) ?_
                  refine AllReadyH.cons rfl (fun K hK => ?_) (AllReadyH.cons rfl (fun K hK => ?_) AllReadyH.nil)
                  · go_simp
                    obtain ⟨v2, hv2⟩ : ∃ x, x = v7.alloc (.cells #[] 32) := ⟨_, rfl⟩
                    have b2 : Below v7.heap.size v7 v2 := by rw [hv2]; exact (Below.refl _ _).alloc (Nat.le_refl _) _
                    have e2 : v7.heap.size < v2.heap.size := by rw [hv2]; simp
                    have f2 : wr.heap.size ≤ v7.heap.size := (unhide hbw).size
                    have hT := cell_later b2 hT
                    have zT : T < v2.heap.size := Nat.lt_of_lt_of_le zT b2.size
                    have zE : E < v2.heap.size := Nat.lt_of_lt_of_le zE b2.size
                    have hbw := hide ((unhide hbw).trans (b2.mono (unhide hbw).size))
                    have p0 := cell_later b2 p0
                    have p1 := cell_later b2 p1
                    have hX : Hid (v2.heap[v7.heap.size]? = some (.cells #[] 32 (0, 0))) := by show _ = _; rw [hv2]; exact alloc_at rfl
                    have nTX : T ≠ v7.heap.size := by omega
                    have nEX : E ≠ v7.heap.size := by omega
                    rw [← hv2]
                    obtain ⟨X, hXe⟩ : ∃ z, z = v7.heap.size := ⟨_, rfl⟩
                    rw [← hXe] at hX nTX nEX ⊢
                    have zX : X < v2.heap.size := by omega
                    have yX : wr.heap.size ≤ X := by omega
                    clear hv2 b2 e2 f2 hXe
                    refine hK.out _ _ ?_ (fun hHeld => ?_)
                    · exact ⟨p0, p1⟩
                    clear hK K
                    try simp only [List.getElem_toArray, List.getElem_cons_succ, List.getElem_cons_zero, Act.put, List.setIfInBounds_toArray, List.set_cons_zero, List.set_cons_succ]
                    refine wpAnyH_ready (rs := [5, 10]) (by kernel_rfl) (by simp) ?_
                    refine AllReadyH.cons rfl (fun K hK => ?_) (AllReadyH.cons rfl (fun K hK => ?_) AllReadyH.nil)
                    · apply step_clz_copy (R := 0) (Ls := Ls) (base := wr.heap.size)
                      case hgd => rfl
                      case ho => rfl
                      case hty => rfl
                      case hs => rfl
                      case hX => exact unhide hX
                      case hbX => exact yX
                      case hbase => exact (unhide hbw).size
                      case hx => rfl
                      case hc => exact (unhide HC0).later (unhide hbw)
                      case hl => omega
                      case' h => intro g5 c5 v5 o5 gr5 at5 lt5
                      have mv5 : Mov X _ v5 := mov_of_grown gr5
                      have hT := mv5.cell hT (by simp only; omega)
                      have zT : T < v5.heap.size := Nat.lt_of_lt_of_le zT mv5.size
                      have zE : E < v5.heap.size := Nat.lt_of_lt_of_le zE mv5.size
                      have p0 := mv5.cell p0 (by simp only; omega)
                      have p1 := mv5.cell p1 (by simp only; omega)
                      have hbw := hide ((unhide hbw).trans (mv5.below yX (unhide hbw).size))
                      have hO := hide o5
                      have zO := lt5
                      have yg5 : wr.heap.size ≤ g5 := own_base o5
                      have ng5T : g5 ≠ T := by rcases at5 with e | e <;> omega
                      have ng5E : g5 ≠ E := by rcases at5 with e | e <;> omega
                      clear o5 gr5 at5 lt5 mv5 hX zX yX
                      refine hK.out _ _ ?_ (fun hHeld => ?_)
                      · exact ⟨p0, p1⟩
                      clear hK K
                      try simp only [List.getElem_toArray, List.getElem_cons_succ, List.getElem_cons_zero, Act.put, List.setIfInBounds_toArray, List.set_cons_zero, List.set_cons_succ]
                      refine wpAnyH_ready (rs := [8, 10]) (by kernel_rfl) (by simp) ?_
                      refine AllReadyH.cons rfl (fun K hK => ?_) (AllReadyH.cons rfl (fun K hK => ?_) AllReadyH.nil)
                      · apply step_clz_one (Ls := Ls) (q := ⟨E, 0, []⟩) (base := wr.heap.size)
                        case hgd => rfl
                        case ho => rfl
                        case hty => rfl
                        case hs => rfl
                        case hown => exact unhide hO
                        case hbase => exact (unhide hbw).size
                        case hx => rfl
                        case hT => exact hT
                        case hl => omega
                        case' h => intro g8 c8 v8 o8 gr8 at8 lt8
                        have mv8 : Mov g5 _ v8 := mov_of_grown gr8
                        have zE : E < v8.heap.size := Nat.lt_of_lt_of_le zE mv8.size
                        have p0 := mv8.cell p0 (by simp only; omega)
                        have p1 := mv8.cell p1 (by simp only; omega)
                        have hbw := hide ((unhide hbw).trans (mv8.below yg5 (unhide hbw).size))
                        have hF := hide o8
                        have zF := lt8
                        clear o8 gr8 at8 lt8 mv8 hO zO hT zT
                        refine hK.out _ _ ?_ (fun hHeld => ?_)
                        · exact ⟨p0, p1⟩
                        clear hK K
                        try simp only [List.getElem_toArray, List.getElem_cons_succ, List.getElem_cons_zero, Act.put, List.setIfInBounds_toArray, List.set_cons_zero, List.set_cons_succ]
                        refine wpAnyH_take (i := 9) (v := ?_) rfl (by kernel_rfl) (by kernel_rfl) (by kernel_rfl) (fun _ _ _ h => h) (Or.inl ⟨by rfl, ?_⟩) (by assumption) ?_
                        rotate_left
                        · (intro w hSw; (try dsimp only at hSw); first | (go_simp; done) | (go_simp; with_reducible rfl))
                        try simp only [List.getElem_toArray, List.getElem_cons_succ, List.getElem_cons_zero, Act.put, List.setIfInBounds_toArray, List.set_cons_zero, List.set_cons_succ]
                        refine wpAnyH_ready (rs := [10]) (by kernel_rfl) (by simp) ?_
                        refine AllReadyH.cons rfl (fun K hK => ?_) AllReadyH.nil
                        go_simp
                        obtain ⟨v10, hv10⟩ : ∃ x, x = v8.alloc (.cells #[.int .i64 0, .slice none 0 0] 25) := ⟨_, rfl⟩
                        have b10 : Below v8.heap.size v8 v10 := by rw [hv10]; exact (Below.refl _ _).alloc (Nat.le_refl _) _
                        have e10 : v8.heap.size < v10.heap.size := by rw [hv10]; simp
                        have f10 : wr.heap.size ≤ v8.heap.size := (unhide hbw).size
                        have hF := hide (World.ownsRow.kept (w' := v10) (unhide hF) (grown_below b10) (by simp [Value.ownBlock]))
                        have zF : g8 < v10.heap.size := Nat.lt_of_lt_of_le zF b10.size
                        have zE : E < v10.heap.size := Nat.lt_of_lt_of_le zE b10.size
                        have hbw := hide ((unhide hbw).trans (b10.mono (unhide hbw).size))
                        have p0 := cell_later b10 p0
                        have p1 := cell_later b10 p1
                        have hD0 : v10.cell? ⟨v8.heap.size, 0, none⟩ = some (.int .i64 0) := by rw [hv10]; simp [go_sem]
                        have hD1 : v10.cell? ⟨v8.heap.size, 1, none⟩ = some (.slice none 0 0) := by rw [hv10]; simp [go_sem]
                        have hDf0 : v10.frozen? ⟨v8.heap.size, 0, none⟩ = false := by rw [hv10]; simp [go_sem]
                        have hDf1 : v10.frozen? ⟨v8.heap.size, 1, none⟩ = false := by rw [hv10]; simp [go_sem]
                        have ng8D : g8 ≠ v8.heap.size := by omega
                        have nED : E ≠ v8.heap.size := by omega
                        rw [← hv10]
                        obtain ⟨D, hDe⟩ : ∃ z, z = v8.heap.size := ⟨_, rfl⟩
                        rw [← hDe] at hD0 hD1 hDf0 hDf1 ng8D nED ⊢
                        have zD : D < v10.heap.size := by omega
                        have yD : wr.heap.size ≤ D := by omega
                        clear hv10 b10 e10 f10 hDe
                        refine hK.out _ _ ?_ (fun hHeld => ?_)
                        · exact ⟨p0, p1⟩
                        clear hK K
                        try simp only [List.getElem_toArray, List.getElem_cons_succ, List.getElem_cons_zero, Act.put, List.setIfInBounds_toArray, List.set_cons_zero, List.set_cons_succ]
                        refine wpAnyH_ready (rs := [11]) (by kernel_rfl) (by simp) ?_
                        refine AllReadyH.cons rfl (fun K hK => ?_) AllReadyH.nil
                        go_simp
                        refine hK.out _ _ ?_ (fun hHeld => ?_)
                        · exact ⟨by rw [World.cell?_setCell_other _ _ _ _ (by simp <;> omega), World.cell?_setCell_other _ _ _ _ (by simp <;> omega)]; exact p0, by rw [World.cell?_setCell_other _ _ _ _ (by simp <;> omega), World.cell?_setCell_other _ _ _ _ (by simp <;> omega)]; exact p1⟩
                        clear hK K
                        try simp only [List.getElem_toArray, List.getElem_cons_succ, List.getElem_cons_zero, Act.put, List.setIfInBounds_toArray, List.set_cons_zero, List.set_cons_succ]
                        refine wpAnyH_done (by kernel_rfl) ?_ _
                        have CF : ClzAt v10 0 (.slice (some ⟨g8, 0, none⟩) (Ls.length + 1) c8) (Ls ++ [⟨E, 0, []⟩]) := own_clz (unhide hF) (by have := own_base (unhide hF); omega) (fun q hq => by
                          rcases List.mem_append.1 hq with h | h
                          · exact ((unhide HC0).1 q h).later (unhide hbw)
                          · simp at h; subst h; exact ⟨by simp only; omega, zE, fun i hi => by simp at hi, by simp, fun x hx => by cases hx⟩)
                        have CG : ∀ q, q ∈ Ls ++ [⟨E, 0, []⟩] → q.g ≠ D := fun q hq => by
                          rcases List.mem_append.1 hq with h | h
                          · have := ((unhide HC0).1 q h).2.1; omega
                          · simp at h; subst h; simp only; omega
                        go_wp2_with fail
                        go_meet
                        exact ⟨D, g8, c8, E, rfl, by rw [World.cell?_setCell_other _ _ _ _ (by simp)]; exact World.cell?_setCell_same _ _ _ hD0, World.cell?_setCell_same _ _ _ (by rw [World.cell?_setCell_other _ _ _ _ (by simp)]; exact hD1), (CF.set CG (by simp [Value.ownBlock]; omega)).set CG (by simp [Value.ownBlock]; omega), (((unhide hbw).setCell yD _).setCell yD _)⟩
                      · go_simp
                        obtain ⟨v10, hv10⟩ : ∃ x, x = v5.alloc (.cells #[.int .i64 0, .slice none 0 0] 25) := ⟨_, rfl⟩
                        have b10 : Below v5.heap.size v5 v10 := by rw [hv10]; exact (Below.refl _ _).alloc (Nat.le_refl _) _
                        have e10 : v5.heap.size < v10.heap.size := by rw [hv10]; simp
                        have f10 : wr.heap.size ≤ v5.heap.size := (unhide hbw).size
                        have hO := hide (World.ownsRow.kept (w' := v10) (unhide hO) (grown_below b10) (by simp [Value.ownBlock]))
                        have hT := cell_later b10 hT
                        have zO : g5 < v10.heap.size := Nat.lt_of_lt_of_le zO b10.size
                        have zT : T < v10.heap.size := Nat.lt_of_lt_of_le zT b10.size
                        have zE : E < v10.heap.size := Nat.lt_of_lt_of_le zE b10.size
                        have hbw := hide ((unhide hbw).trans (b10.mono (unhide hbw).size))
                        have p0 := cell_later b10 p0
                        have p1 := cell_later b10 p1
                        have hD0 : v10.cell? ⟨v5.heap.size, 0, none⟩ = some (.int .i64 0) := by rw [hv10]; simp [go_sem]
                        have hD1 : v10.cell? ⟨v5.heap.size, 1, none⟩ = some (.slice none 0 0) := by rw [hv10]; simp [go_sem]
                        have hDf0 : v10.frozen? ⟨v5.heap.size, 0, none⟩ = false := by rw [hv10]; simp [go_sem]
                        have hDf1 : v10.frozen? ⟨v5.heap.size, 1, none⟩ = false := by rw [hv10]; simp [go_sem]
                        have ng5D : g5 ≠ v5.heap.size := by omega
                        have nTD : T ≠ v5.heap.size := by omega
                        have nED : E ≠ v5.heap.size := by omega
                        rw [← hv10]
                        obtain ⟨D, hDe⟩ : ∃ z, z = v5.heap.size := ⟨_, rfl⟩
                        rw [← hDe] at hD0 hD1 hDf0 hDf1 ng5D nTD nED ⊢
                        have zD : D < v10.heap.size := by omega
                        have yD : wr.heap.size ≤ D := by omega
                        clear hv10 b10 e10 f10 hDe
                        refine hK.out _ _ ?_ (fun hHeld => ?_)
                        · exact ⟨p0, p1⟩
                        clear hK K
                        try simp only [List.getElem_toArray, List.getElem_cons_succ, List.getElem_cons_zero, Act.put, List.setIfInBounds_toArray, List.set_cons_zero, List.set_cons_succ]
                        refine wpAnyH_ready (rs := [8]) (by kernel_rfl) (by simp) ?_
                        refine AllReadyH.cons rfl (fun K hK => ?_) AllReadyH.nil
                        apply step_clz_one (Ls := Ls) (q := ⟨E, 0, []⟩) (base := wr.heap.size)
                        case hgd => rfl
                        case ho => rfl
                        case hty => rfl
                        case hs => rfl
                        case hown => exact unhide hO
                        case hbase => exact (unhide hbw).size
                        case hx => rfl
                        case hT => exact hT
                        case hl => omega
                        case' h => intro g8 c8 v8 o8 gr8 at8 lt8
                        have mv8 : Mov g5 _ v8 := mov_of_grown gr8
                        have zE : E < v8.heap.size := Nat.lt_of_lt_of_le zE mv8.size
                        have hD0 := mv8.cell hD0 (by simp only; omega)
                        have hD1 := mv8.cell hD1 (by simp only; omega)
                        have hDf0 := (World.frozen?_of_block (w := v10) (a := ⟨D, 0, none⟩) (mv8.2.2.2.2 D zD (by omega))).trans hDf0
                        have hDf1 := (World.frozen?_of_block (w := v10) (a := ⟨D, 1, none⟩) (mv8.2.2.2.2 D zD (by omega))).trans hDf1
                        have zD : D < v8.heap.size := Nat.lt_of_lt_of_le zD mv8.size
                        have p0 := mv8.cell p0 (by simp only; omega)
                        have p1 := mv8.cell p1 (by simp only; omega)
                        have hbw := hide ((unhide hbw).trans (mv8.below yg5 (unhide hbw).size))
                        have hF := hide o8
                        have zF := lt8
                        have ng8D : g8 ≠ D := by rcases at8 with e | e <;> omega
                        clear o8 gr8 at8 lt8 mv8 hO zO hT zT
                        refine hK.out _ _ ?_ (fun hHeld => ?_)
                        · exact ⟨p0, p1⟩
                        clear hK K
                        try simp only [List.getElem_toArray, List.getElem_cons_succ, List.getElem_cons_zero, Act.put, List.setIfInBounds_toArray, List.set_cons_zero, List.set_cons_succ]
                        refine wpAnyH_take (i := 9) (v := ?_) rfl (by kernel_rfl) (by kernel_rfl) (by kernel_rfl) (fun _ _ _ h => h) (Or.inl ⟨by rfl, ?_⟩) (by assumption) ?_
                        rotate_left
                        · (intro w hSw; (try dsimp only at hSw); first | (go_simp; done) | (go_simp; with_reducible rfl))
                        try simp only [List.getElem_toArray, List.getElem_cons_succ, List.getElem_cons_zero, Act.put, List.setIfInBounds_toArray, List.set_cons_zero, List.set_cons_succ]
                        refine wpAnyH_ready (rs := [11]) (by kernel_rfl) (by simp) ?_
                        refine AllReadyH.cons rfl (fun K hK => ?_) AllReadyH.nil
                        go_simp
                        refine hK.out _ _ ?_ (fun hHeld => ?_)
                        · exact ⟨by rw [World.cell?_setCell_other _ _ _ _ (by simp <;> omega), World.cell?_setCell_other _ _ _ _ (by simp <;> omega)]; exact p0, by rw [World.cell?_setCell_other _ _ _ _ (by simp <;> omega), World.cell?_setCell_other _ _ _ _ (by simp <;> omega)]; exact p1⟩
                        clear hK K
                        try simp only [List.getElem_toArray, List.getElem_cons_succ, List.getElem_cons_zero, Act.put, List.setIfInBounds_toArray, List.set_cons_zero, List.set_cons_succ]
                        refine wpAnyH_done (by kernel_rfl) ?_ _
                        have CF : ClzAt v8 0 (.slice (some ⟨g8, 0, none⟩) (Ls.length + 1) c8) (Ls ++ [⟨E, 0, []⟩]) := own_clz (unhide hF) (by have := own_base (unhide hF); omega) (fun q hq => by
                          rcases List.mem_append.1 hq with h | h
                          · exact ((unhide HC0).1 q h).later (unhide hbw)
                          · simp at h; subst h; exact ⟨by simp only; omega, zE, fun i hi => by simp at hi, by simp, fun x hx => by cases hx⟩)
                        have CG : ∀ q, q ∈ Ls ++ [⟨E, 0, []⟩] → q.g ≠ D := fun q hq => by
                          rcases List.mem_append.1 hq with h | h
                          · have := ((unhide HC0).1 q h).2.1; omega
                          · simp at h; subst h; simp only; omega
                        go_wp2_with fail
                        go_meet
                        exact ⟨D, g8, c8, E, rfl, by rw [World.cell?_setCell_other _ _ _ _ (by simp)]; exact World.cell?_setCell_same _ _ _ hD0, World.cell?_setCell_same _ _ _ (by rw [World.cell?_setCell_other _ _ _ _ (by simp)]; exact hD1), (CF.set CG (by simp [Value.ownBlock]; omega)).set CG (by simp [Value.ownBlock]; omega), (((unhide hbw).setCell yD _).setCell yD _)⟩
                    · go_simp
                      obtain ⟨v10, hv10⟩ : ∃ x, x = v2.alloc (.cells #[.int .i64 0, .slice none 0 0] 25) := ⟨_, rfl⟩
                      have b10 : Below v2.heap.size v2 v10 := by rw [hv10]; exact (Below.refl _ _).alloc (Nat.le_refl _) _
                      have e10 : v2.heap.size < v10.heap.size := by rw [hv10]; simp
                      have f10 : wr.heap.size ≤ v2.heap.size := (unhide hbw).size
                      have hX : Hid (v10.heap[X]? = some (.cells #[] 32 (0, 0))) := (b10.block _ (by omega)).trans (unhide hX)
                      have hT := cell_later b10 hT
                      have zX : X < v10.heap.size := Nat.lt_of_lt_of_le zX b10.size
                      have zT : T < v10.heap.size := Nat.lt_of_lt_of_le zT b10.size
                      have zE : E < v10.heap.size := Nat.lt_of_lt_of_le zE b10.size
                      have hbw := hide ((unhide hbw).trans (b10.mono (unhide hbw).size))
                      have p0 := cell_later b10 p0
                      have p1 := cell_later b10 p1
                      have hD0 : v10.cell? ⟨v2.heap.size, 0, none⟩ = some (.int .i64 0) := by rw [hv10]; simp [go_sem]
                      have hD1 : v10.cell? ⟨v2.heap.size, 1, none⟩ = some (.slice none 0 0) := by rw [hv10]; simp [go_sem]
                      have hDf0 : v10.frozen? ⟨v2.heap.size, 0, none⟩ = false := by rw [hv10]; simp [go_sem]
                      have hDf1 : v10.frozen? ⟨v2.heap.size, 1, none⟩ = false := by rw [hv10]; simp [go_sem]
                      have nXD : X ≠ v2.heap.size := by omega
                      have nTD : T ≠ v2.heap.size := by omega
                      have nED : E ≠ v2.heap.size := by omega
                      rw [← hv10]
                      obtain ⟨D, hDe⟩ : ∃ z, z = v2.heap.size := ⟨_, rfl⟩
                      rw [← hDe] at hD0 hD1 hDf0 hDf1 nXD nTD nED ⊢
                      have zD : D < v10.heap.size := by omega
                      have yD : wr.heap.size ≤ D := by omega
                      clear hv10 b10 e10 f10 hDe
                      refine hK.out _ _ ?_ (fun hHeld => ?_)
                      · exact ⟨p0, p1⟩
                      clear hK K
                      try simp only [List.getElem_toArray, List.getElem_cons_succ, List.getElem_cons_zero, Act.put, List.setIfInBounds_toArray, List.set_cons_zero, List.set_cons_succ]
                      refine wpAnyH_ready (rs := [5]) (by kernel_rfl) (by simp) ?_
                      refine AllReadyH.cons rfl (fun K hK => ?_) AllReadyH.nil
                      apply step_clz_copy (R := 0) (Ls := Ls) (base := wr.heap.size)
                      case hgd => rfl
                      case ho => rfl
                      case hty => rfl
                      case hs => rfl
                      case hX => exact unhide hX
                      case hbX => exact yX
                      case hbase => exact (unhide hbw).size
                      case hx => rfl
                      case hc => exact (unhide HC0).later (unhide hbw)
                      case hl => omega
                      case' h => intro g5 c5 v5 o5 gr5 at5 lt5
                      have mv5 : Mov X _ v5 := mov_of_grown gr5
                      have hT := mv5.cell hT (by simp only; omega)
                      have zT : T < v5.heap.size := Nat.lt_of_lt_of_le zT mv5.size
                      have zE : E < v5.heap.size := Nat.lt_of_lt_of_le zE mv5.size
                      have hD0 := mv5.cell hD0 (by simp only; omega)
                      have hD1 := mv5.cell hD1 (by simp only; omega)
                      have hDf0 := (World.frozen?_of_block (w := v10) (a := ⟨D, 0, none⟩) (mv5.2.2.2.2 D zD (by omega))).trans hDf0
                      have hDf1 := (World.frozen?_of_block (w := v10) (a := ⟨D, 1, none⟩) (mv5.2.2.2.2 D zD (by omega))).trans hDf1
                      have zD : D < v5.heap.size := Nat.lt_of_lt_of_le zD mv5.size
                      have p0 := mv5.cell p0 (by simp only; omega)
                      have p1 := mv5.cell p1 (by simp only; omega)
                      have hbw := hide ((unhide hbw).trans (mv5.below yX (unhide hbw).size))
                      have hO := hide o5
                      have zO := lt5
                      have yg5 : wr.heap.size ≤ g5 := own_base o5
                      have ng5T : g5 ≠ T := by rcases at5 with e | e <;> omega
                      have ng5E : g5 ≠ E := by rcases at5 with e | e <;> omega
                      have ng5D : g5 ≠ D := by rcases at5 with e | e <;> omega
                      clear o5 gr5 at5 lt5 mv5 hX zX yX
                      refine hK.out _ _ ?_ (fun hHeld => ?_)
                      · exact ⟨p0, p1⟩
                      clear hK K
                      try simp only [List.getElem_toArray, List.getElem_cons_succ, List.getElem_cons_zero, Act.put, List.setIfInBounds_toArray, List.set_cons_zero, List.set_cons_succ]
                      refine wpAnyH_ready (rs := [8]) (by kernel_rfl) (by simp) ?_
                      refine AllReadyH.cons rfl (fun K hK => ?_) AllReadyH.nil
                      apply step_clz_one (Ls := Ls) (q := ⟨E, 0, []⟩) (base := wr.heap.size)
                      case hgd => rfl
                      case ho => rfl
                      case hty => rfl
                      case hs => rfl
                      case hown => exact unhide hO
                      case hbase => exact (unhide hbw).size
                      case hx => rfl
                      case hT => exact hT
                      case hl => omega
                      case' h => intro g8 c8 v8 o8 gr8 at8 lt8
                      have mv8 : Mov g5 _ v8 := mov_of_grown gr8
                      have zE : E < v8.heap.size := Nat.lt_of_lt_of_le zE mv8.size
                      have hD0 := mv8.cell hD0 (by simp only; omega)
                      have hD1 := mv8.cell hD1 (by simp only; omega)
                      have hDf0 := (World.frozen?_of_block (w := v5) (a := ⟨D, 0, none⟩) (mv8.2.2.2.2 D zD (by omega))).trans hDf0
                      have hDf1 := (World.frozen?_of_block (w := v5) (a := ⟨D, 1, none⟩) (mv8.2.2.2.2 D zD (by omega))).trans hDf1
                      have zD : D < v8.heap.size := Nat.lt_of_lt_of_le zD mv8.size
                      have p0 := mv8.cell p0 (by simp only; omega)
                      have p1 := mv8.cell p1 (by simp only; omega)
                      have hbw := hide ((unhide hbw).trans (mv8.below yg5 (unhide hbw).size))
                      have hF := hide o8
                      have zF := lt8
                      have ng8D : g8 ≠ D := by rcases at8 with e | e <;> omega
                      clear o8 gr8 at8 lt8 mv8 hO zO hT zT
                      refine hK.out _ _ ?_ (fun hHeld => ?_)
                      · exact ⟨p0, p1⟩
                      clear hK K
                      try simp only [List.getElem_toArray, List.getElem_cons_succ, List.getElem_cons_zero, Act.put, List.setIfInBounds_toArray, List.set_cons_zero, List.set_cons_succ]
                      refine wpAnyH_take (i := 9) (v := ?_) rfl (by kernel_rfl) (by kernel_rfl) (by kernel_rfl) (fun _ _ _ h => h) (Or.inl ⟨by rfl, ?_⟩) (by assumption) ?_
                      rotate_left
                      · (intro w hSw; (try dsimp only at hSw); first | (go_simp; done) | (go_simp; with_reducible rfl))
                      try simp only [List.getElem_toArray, List.getElem_cons_succ, List.getElem_cons_zero, Act.put, List.setIfInBounds_toArray, List.set_cons_zero, List.set_cons_succ]
                      refine wpAnyH_ready (rs := [11]) (by kernel_rfl) (by simp) ?_
                      refine AllReadyH.cons rfl (fun K hK => ?_) AllReadyH.nil
                      go_simp
                      refine hK.out _ _ ?_ (fun hHeld => ?_)
                      · exact ⟨by rw [World.cell?_setCell_other _ _ _ _ (by simp <;> omega), World.cell?_setCell_other _ _ _ _ (by simp <;> omega)]; exact p0, by rw [World.cell?_setCell_other _ _ _ _ (by simp <;> omega), World.cell?_setCell_other _ _ _ _ (by simp <;> omega)]; exact p1⟩
                      clear hK K
                      try simp only [List.getElem_toArray, List.getElem_cons_succ, List.getElem_cons_zero, Act.put, List.setIfInBounds_toArray, List.set_cons_zero, List.set_cons_succ]
                      refine wpAnyH_done (by kernel_rfl) ?_ _
                      have CF : ClzAt v8 0 (.slice (some ⟨g8, 0, none⟩) (Ls.length + 1) c8) (Ls ++ [⟨E, 0, []⟩]) := own_clz (unhide hF) (by have := own_base (unhide hF); omega) (fun q hq => by
                        rcases List.mem_append.1 hq with h | h
                        · exact ((unhide HC0).1 q h).later (unhide hbw)
                        · simp at h; subst h; exact ⟨by simp only; omega, zE, fun i hi => by simp at hi, by simp, fun x hx => by cases hx⟩)
                      have CG : ∀ q, q ∈ Ls ++ [⟨E, 0, []⟩] → q.g ≠ D := fun q hq => by
                        rcases List.mem_append.1 hq with h | h
                        · have := ((unhide HC0).1 q h).2.1; omega
                        · simp at h; subst h; simp only; omega
                      go_wp2_with fail
                      go_meet
                      exact ⟨D, g8, c8, E, rfl, by rw [World.cell?_setCell_other _ _ _ _ (by simp)]; exact World.cell?_setCell_same _ _ _ hD0, World.cell?_setCell_same _ _ _ (by rw [World.cell?_setCell_other _ _ _ _ (by simp)]; exact hD1), (CF.set CG (by simp [Value.ownBlock]; omega)).set CG (by simp [Value.ownBlock]; omega), (((unhide hbw).setCell yD _).setCell yD _)⟩
                  · go_simp
                    obtain ⟨v10, hv10⟩ : ∃ x, x = v7.alloc (.cells #[.int .i64 0, .slice none 0 0] 25) := ⟨_, rfl⟩
                    have b10 : Below v7.heap.size v7 v10 := by rw [hv10]; exact (Below.refl _ _).alloc (Nat.le_refl _) _
                    have e10 : v7.heap.size < v10.heap.size := by rw [hv10]; simp
                    have f10 : wr.heap.size ≤ v7.heap.size := (unhide hbw).size
                    have hT := cell_later b10 hT
                    have zT : T < v10.heap.size := Nat.lt_of_lt_of_le zT b10.size
                    have zE : E < v10.heap.size := Nat.lt_of_lt_of_le zE b10.size
                    have hbw := hide ((unhide hbw).trans (b10.mono (unhide hbw).size))
                    have p0 := cell_later b10 p0
                    have p1 := cell_later b10 p1
                    have hD0 : v10.cell? ⟨v7.heap.size, 0, none⟩ = some (.int .i64 0) := by rw [hv10]; simp [go_sem]
                    have hD1 : v10.cell? ⟨v7.heap.size, 1, none⟩ = some (.slice none 0 0) := by rw [hv10]; simp [go_sem]
                    have hDf0 : v10.frozen? ⟨v7.heap.size, 0, none⟩ = false := by rw [hv10]; simp [go_sem]
                    have hDf1 : v10.frozen? ⟨v7.heap.size, 1, none⟩ = false := by rw [hv10]; simp [go_sem]
                    have nTD : T ≠ v7.heap.size := by omega
                    have nED : E ≠ v7.heap.size := by omega
                    rw [← hv10]
                    obtain ⟨D, hDe⟩ : ∃ z, z = v7.heap.size := ⟨_, rfl⟩
                    rw [← hDe] at hD0 hD1 hDf0 hDf1 nTD nED ⊢
                    have zD : D < v10.heap.size := by omega
                    have yD : wr.heap.size ≤ D := by omega
                    clear hv10 b10 e10 f10 hDe
                    refine hK.out _ _ ?_ (fun hHeld => ?_)
                    · exact ⟨p0, p1⟩
                    clear hK K
                    try simp only [List.getElem_toArray, List.getElem_cons_succ, List.getElem_cons_zero, Act.put, List.setIfInBounds_toArray, List.set_cons_zero, List.set_cons_succ]
                    refine wpAnyH_ready (rs := [2]) (by kernel_rfl) (by simp) ?_
                    refine AllReadyH.cons rfl (fun K hK => ?_) AllReadyH.nil
                    go_simp
                    obtain ⟨v2, hv2⟩ : ∃ x, x = v10.alloc (.cells #[] 32) := ⟨_, rfl⟩
                    have b2 : Below v10.heap.size v10 v2 := by rw [hv2]; exact (Below.refl _ _).alloc (Nat.le_refl _) _
                    have e2 : v10.heap.size < v2.heap.size := by rw [hv2]; simp
                    have f2 : wr.heap.size ≤ v10.heap.size := (unhide hbw).size
                    have hT := cell_later b2 hT
                    have hD0 := cell_later b2 hD0
                    have hD1 := cell_later b2 hD1
                    have hDf0 := (b2.frozen (p := ⟨D, 0, none⟩) zD).trans hDf0
                    have hDf1 := (b2.frozen (p := ⟨D, 1, none⟩) zD).trans hDf1
                    have zT : T < v2.heap.size := Nat.lt_of_lt_of_le zT b2.size
                    have zE : E < v2.heap.size := Nat.lt_of_lt_of_le zE b2.size
                    have zD : D < v2.heap.size := Nat.lt_of_lt_of_le zD b2.size
                    have hbw := hide ((unhide hbw).trans (b2.mono (unhide hbw).size))
                    have p0 := cell_later b2 p0
                    have p1 := cell_later b2 p1
                    have hX : Hid (v2.heap[v10.heap.size]? = some (.cells #[] 32 (0, 0))) := by show _ = _; rw [hv2]; exact alloc_at rfl
                    have nTX : T ≠ v10.heap.size := by omega
                    have nEX : E ≠ v10.heap.size := by omega
                    have nDX : D ≠ v10.heap.size := by omega
                    rw [← hv2]
                    obtain ⟨X, hXe⟩ : ∃ z, z = v10.heap.size := ⟨_, rfl⟩
                    rw [← hXe] at hX nTX nEX nDX ⊢
                    have zX : X < v2.heap.size := by omega
                    have yX : wr.heap.size ≤ X := by omega
                    clear hv2 b2 e2 f2 hXe
                    refine hK.out _ _ ?_ (fun hHeld => ?_)
                    · exact ⟨p0, p1⟩
                    clear hK K
                    try simp only [List.getElem_toArray, List.getElem_cons_succ, List.getElem_cons_zero, Act.put, List.setIfInBounds_toArray, List.set_cons_zero, List.set_cons_succ]
                    refine wpAnyH_ready (rs := [5]) (by kernel_rfl) (by simp) ?_
                    refine AllReadyH.cons rfl (fun K hK => ?_) AllReadyH.nil
                    apply step_clz_copy (R := 0) (Ls := Ls) (base := wr.heap.size)
                    case hgd => rfl
                    case ho => rfl
                    case hty => rfl
                    case hs => rfl
                    case hX => exact unhide hX
                    case hbX => exact yX
                    case hbase => exact (unhide hbw).size
                    case hx => rfl
                    case hc => exact (unhide HC0).later (unhide hbw)
                    case hl => omega
                    case' h => intro g5 c5 v5 o5 gr5 at5 lt5
                    have mv5 : Mov X _ v5 := mov_of_grown gr5
                    have hT := mv5.cell hT (by simp only; omega)
                    have zT : T < v5.heap.size := Nat.lt_of_lt_of_le zT mv5.size
                    have zE : E < v5.heap.size := Nat.lt_of_lt_of_le zE mv5.size
                    have hD0 := mv5.cell hD0 (by simp only; omega)
                    have hD1 := mv5.cell hD1 (by simp only; omega)
                    have hDf0 := (World.frozen?_of_block (w := v2) (a := ⟨D, 0, none⟩) (mv5.2.2.2.2 D zD (by omega))).trans hDf0
                    have hDf1 := (World.frozen?_of_block (w := v2) (a := ⟨D, 1, none⟩) (mv5.2.2.2.2 D zD (by omega))).trans hDf1
                    have zD : D < v5.heap.size := Nat.lt_of_lt_of_le zD mv5.size
                    have p0 := mv5.cell p0 (by simp only; omega)
                    have p1 := mv5.cell p1 (by simp only; omega)
                    have hbw := hide ((unhide hbw).trans (mv5.below yX (unhide hbw).size))
                    have hO := hide o5
                    have zO := lt5
                    have yg5 : wr.heap.size ≤ g5 := own_base o5
                    have ng5T : g5 ≠ T := by rcases at5 with e | e <;> omega
                    have ng5E : g5 ≠ E := by rcases at5 with e | e <;> omega
                    have ng5D : g5 ≠ D := by rcases at5 with e | e <;> omega
                    clear o5 gr5 at5 lt5 mv5 hX zX yX
                    refine hK.out _ _ ?_ (fun hHeld => ?_)
                    · exact ⟨p0, p1⟩
                    clear hK K
                    try simp only [List.getElem_toArray, List.getElem_cons_succ, List.getElem_cons_zero, Act.put, List.setIfInBounds_toArray, List.set_cons_zero, List.set_cons_succ]
                    refine wpAnyH_ready (rs := [8]) (by kernel_rfl) (by simp) ?_
                    refine AllReadyH.cons rfl (fun K hK => ?_) AllReadyH.nil
                    apply step_clz_one (Ls := Ls) (q := ⟨E, 0, []⟩) (base := wr.heap.size)
                    case hgd => rfl
                    case ho => rfl
                    case hty => rfl
                    case hs => rfl
                    case hown => exact unhide hO
                    case hbase => exact (unhide hbw).size
                    case hx => rfl
                    case hT => exact hT
                    case hl => omega
                    case' h => intro g8 c8 v8 o8 gr8 at8 lt8
                    have mv8 : Mov g5 _ v8 := mov_of_grown gr8
                    have zE : E < v8.heap.size := Nat.lt_of_lt_of_le zE mv8.size
                    have hD0 := mv8.cell hD0 (by simp only; omega)
                    have hD1 := mv8.cell hD1 (by simp only; omega)
                    have hDf0 := (World.frozen?_of_block (w := v5) (a := ⟨D, 0, none⟩) (mv8.2.2.2.2 D zD (by omega))).trans hDf0
                    have hDf1 := (World.frozen?_of_block (w := v5) (a := ⟨D, 1, none⟩) (mv8.2.2.2.2 D zD (by omega))).trans hDf1
                    have zD : D < v8.heap.size := Nat.lt_of_lt_of_le zD mv8.size
                    have p0 := mv8.cell p0 (by simp only; omega)
                    have p1 := mv8.cell p1 (by simp only; omega)
                    have hbw := hide ((unhide hbw).trans (mv8.below yg5 (unhide hbw).size))
                    have hF := hide o8
                    have zF := lt8
                    have ng8D : g8 ≠ D := by rcases at8 with e | e <;> omega
                    clear o8 gr8 at8 lt8 mv8 hO zO hT zT
                    refine hK.out _ _ ?_ (fun hHeld => ?_)
                    · exact ⟨p0, p1⟩
                    clear hK K
                    try simp only [List.getElem_toArray, List.getElem_cons_succ, List.getElem_cons_zero, Act.put, List.setIfInBounds_toArray, List.set_cons_zero, List.set_cons_succ]
                    refine wpAnyH_take (i := 9) (v := ?_) rfl (by kernel_rfl) (by kernel_rfl) (by kernel_rfl) (fun _ _ _ h => h) (Or.inl ⟨by rfl, ?_⟩) (by assumption) ?_
                    rotate_left
                    · (intro w hSw; (try dsimp only at hSw); first | (go_simp; done) | (go_simp; with_reducible rfl))
                    try simp only [List.getElem_toArray, List.getElem_cons_succ, List.getElem_cons_zero, Act.put, List.setIfInBounds_toArray, List.set_cons_zero, List.set_cons_succ]
                    refine wpAnyH_ready (rs := [11]) (by kernel_rfl) (by simp) ?_
                    refine AllReadyH.cons rfl (fun K hK => ?_) AllReadyH.nil
                    go_simp
                    refine hK.out _ _ ?_ (fun hHeld => ?_)
                    · exact ⟨by rw [World.cell?_setCell_other _ _ _ _ (by simp <;> omega), World.cell?_setCell_other _ _ _ _ (by simp <;> omega)]; exact p0, by rw [World.cell?_setCell_other _ _ _ _ (by simp <;> omega), World.cell?_setCell_other _ _ _ _ (by simp <;> omega)]; exact p1⟩
                    clear hK K
                    try simp only [List.getElem_toArray, List.getElem_cons_succ, List.getElem_cons_zero, Act.put, List.setIfInBounds_toArray, List.set_cons_zero, List.set_cons_succ]
                    refine wpAnyH_done (by kernel_rfl) ?_ _
                    have CF : ClzAt v8 0 (.slice (some ⟨g8, 0, none⟩) (Ls.length + 1) c8) (Ls ++ [⟨E, 0, []⟩]) := own_clz (unhide hF) (by have := own_base (unhide hF); omega) (fun q hq => by
                      rcases List.mem_append.1 hq with h | h
                      · exact ((unhide HC0).1 q h).later (unhide hbw)
                      · simp at h; subst h; exact ⟨by simp only; omega, zE, fun i hi => by simp at hi, by simp, fun x hx => by cases hx⟩)
                    have CG : ∀ q, q ∈ Ls ++ [⟨E, 0, []⟩] → q.g ≠ D := fun q hq => by
                      rcases List.mem_append.1 hq with h | h
                      · have := ((unhide HC0).1 q h).2.1; omega
                      · simp at h; subst h; simp only; omega
                    go_wp2_with fail
                    go_meet
                    exact ⟨D, g8, c8, E, rfl, by rw [World.cell?_setCell_other _ _ _ _ (by simp)]; exact World.cell?_setCell_same _ _ _ hD0, World.cell?_setCell_same _ _ _ (by rw [World.cell?_setCell_other _ _ _ _ (by simp)]; exact hD1), (CF.set CG (by simp [Value.ownBlock]; omega)).set CG (by simp [Value.ownBlock]; omega), (((unhide hbw).setCell yD _).setCell yD _)⟩
                · go_simp
                  obtain ⟨v10, hv10⟩ : ∃ x, x = v6.alloc (.cells #[.int .i64 0, .slice none 0 0] 25) := ⟨_, rfl⟩
                  have b10 : Below v6.heap.size v6 v10 := by rw [hv10]; exact (Below.refl _ _).alloc (Nat.le_refl _) _
                  have e10 : v6.heap.size < v10.heap.size := by rw [hv10]; simp
                  have f10 : wr.heap.size ≤ v6.heap.size := (unhide hbw).size
                  have zE : E < v10.heap.size := Nat.lt_of_lt_of_le zE b10.size
                  have hbw := hide ((unhide hbw).trans (b10.mono (unhide hbw).size))
                  have p0 := cell_later b10 p0
                  have p1 := cell_later b10 p1
                  have hD0 : v10.cell? ⟨v6.heap.size, 0, none⟩ = some (.int .i64 0) := by rw [hv10]; simp [go_sem]
                  have hD1 : v10.cell? ⟨v6.heap.size, 1, none⟩ = some (.slice none 0 0) := by rw [hv10]; simp [go_sem]
                  have hDf0 : v10.frozen? ⟨v6.heap.size, 0, none⟩ = false := by rw [hv10]; simp [go_sem]
                  have hDf1 : v10.frozen? ⟨v6.heap.size, 1, none⟩ = false := by rw [hv10]; simp [go_sem]
                  have nED : E ≠ v6.heap.size := by omega
                  rw [← hv10]
                  obtain ⟨D, hDe⟩ : ∃ z, z = v6.heap.size := ⟨_, rfl⟩
                  rw [← hDe] at hD0 hD1 hDf0 hDf1 nED ⊢
                  have zD : D < v10.heap.size := by omega
                  have yD : wr.heap.size ≤ D := by omega
                  clear hv10 b10 e10 f10 hDe
                  refine hK.out _ _ ?_ (fun hHeld => ?_)
                  · exact ⟨p0, p1⟩
                  clear hK K
                  try simp only [List.getElem_toArray, List.getElem_cons_succ, List.getElem_cons_zero, Act.put, List.setIfInBounds_toArray, List.set_cons_zero, List.set_cons_succ]
                  refine wpAnyH_ready (rs := [2, 7]) (by kernel_rfl) (by simp) ?_
                  refine AllReadyH.cons rfl (fun K hK => ?_) (AllReadyH.cons rfl (fun K hK => ?_) AllReadyH.nil)
                  · go_simp
                    obtain ⟨v2, hv2⟩ : ∃ x, x = v10.alloc (.cells #[] 32) := ⟨_, rfl⟩
                    have b2 : Below v10.heap.size v10 v2 := by rw [hv2]; exact (Below.refl _ _).alloc (Nat.le_refl _) _
                    have e2 : v10.heap.size < v2.heap.size := by rw [hv2]; simp
                    have f2 : wr.heap.size ≤ v10.heap.size := (unhide hbw).size
                    have hD0 := cell_later b2 hD0
                    have hD1 := cell_later b2 hD1
                    have hDf0 := (b2.frozen (p := ⟨D, 0, none⟩) zD).trans hDf0
                    have hDf1 := (b2.frozen (p := ⟨D, 1, none⟩) zD).trans hDf1
                    have zE : E < v2.heap.size := Nat.lt_of_lt_of_le zE b2.size
                    have zD : D < v2.heap.size := Nat.lt_of_lt_of_le zD b2.size
                    have hbw := hide ((unhide hbw).trans (b2.mono (unhide hbw).size))
                    have p0 := cell_later b2 p0
                    have p1 := cell_later b2 p1
                    have hX : Hid (v2.heap[v10.heap.size]? = some (.cells #[] 32 (0, 0))) := by show _ = _; rw [hv2]; exact alloc_at rfl
                    have nEX : E ≠ v10.heap.size := by omega
                    have nDX : D ≠ v10.heap.size := by omega
                    rw [← hv2]
                    obtain ⟨X, hXe⟩ : ∃ z, z = v10.heap.size := ⟨_, rfl⟩
                    rw [← hXe] at hX nEX nDX ⊢
                    have zX : X < v2.heap.size := by omega
                    have yX : wr.heap.size ≤ X := by omega
                    clear hv2 b2 e2 f2 hXe
                    refine hK.out _ _ ?_ (fun hHeld => ?_)
                    · exact ⟨p0, p1⟩
                    clear hK K
                    try simp only [List.getElem_toArray, List.getElem_cons_succ, List.getElem_cons_zero, Act.put, List.setIfInBounds_toArray, List.set_cons_zero, List.set_cons_succ]
                    refine wpAnyH_ready (rs := [5, 7]) (by kernel_rfl) (by simp) ?_
                    refine AllReadyH.cons rfl (fun K hK => ?_) (AllReadyH.cons rfl (fun K hK => ?_) AllReadyH.nil)
                    · apply step_clz_copy (R := 0) (Ls := Ls) (base := wr.heap.size)
                      case hgd => rfl
                      case ho => rfl
                      case hty => rfl
                      case hs => rfl
                      case hX => exact unhide hX
                      case hbX => exact yX
                      case hbase => exact (unhide hbw).size
                      case hx => rfl
                      case hc => exact (unhide HC0).later (unhide hbw)
                      case hl => omega
                      case' h => intro g5 c5 v5 o5 gr5 at5 lt5
                      have mv5 : Mov X _ v5 := mov_of_grown gr5
                      have zE : E < v5.heap.size := Nat.lt_of_lt_of_le zE mv5.size
                      have hD0 := mv5.cell hD0 (by simp only; omega)
                      have hD1 := mv5.cell hD1 (by simp only; omega)
                      have hDf0 := (World.frozen?_of_block (w := v2) (a := ⟨D, 0, none⟩) (mv5.2.2.2.2 D zD (by omega))).trans hDf0
                      have hDf1 := (World.frozen?_of_block (w := v2) (a := ⟨D, 1, none⟩) (mv5.2.2.2.2 D zD (by omega))).trans hDf1
                      have zD : D < v5.heap.size := Nat.lt_of_lt_of_le zD mv5.size
                      have p0 := mv5.cell p0 (by simp only; omega)
                      have p1 := mv5.cell p1 (by simp only; omega)
                      have hbw := hide ((unhide hbw).trans (mv5.below yX (unhide hbw).size))
                      have hO := hide o5
                      have zO := lt5
                      have yg5 : wr.heap.size ≤ g5 := own_base o5
                      have ng5E : g5 ≠ E := by rcases at5 with e | e <;> omega
                      have ng5D : g5 ≠ D := by rcases at5 with e | e <;> omega
                      clear o5 gr5 at5 lt5 mv5 hX zX yX
                      refine hK.out _ _ ?_ (fun hHeld => ?_)
                      · exact ⟨p0, p1⟩
                      clear hK K
                      try simp only [List.getElem_toArray, List.getElem_cons_succ, List.getElem_cons_zero, Act.put, List.setIfInBounds_toArray, List.set_cons_zero, List.set_cons_succ]
                      refine wpAnyH_ready (rs := [7]) (by kernel_rfl) (by simp) ?_
                      refine AllReadyH.cons rfl (fun K hK => ?_) AllReadyH.nil
                      go_simp
                      obtain ⟨v7, hv7⟩ : ∃ x, x = v5.alloc (.cells #[.slice (some ⟨E, 0, none⟩) 0 0] 32) := ⟨_, rfl⟩
                      have b7 : Below v5.heap.size v5 v7 := by rw [hv7]; exact (Below.refl _ _).alloc (Nat.le_refl _) _
                      have e7 : v5.heap.size < v7.heap.size := by rw [hv7]; simp
                      have f7 : wr.heap.size ≤ v5.heap.size := (unhide hbw).size
                      have hO := hide (World.ownsRow.kept (w' := v7) (unhide hO) (grown_below b7) (by simp [Value.ownBlock]))
                      have hD0 := cell_later b7 hD0
                      have hD1 := cell_later b7 hD1
                      have hDf0 := (b7.frozen (p := ⟨D, 0, none⟩) zD).trans hDf0
                      have hDf1 := (b7.frozen (p := ⟨D, 1, none⟩) zD).trans hDf1
                      have zO : g5 < v7.heap.size := Nat.lt_of_lt_of_le zO b7.size
                      have zE : E < v7.heap.size := Nat.lt_of_lt_of_le zE b7.size
                      have zD : D < v7.heap.size := Nat.lt_of_lt_of_le zD b7.size
                      have hbw := hide ((unhide hbw).trans (b7.mono (unhide hbw).size))
                      have p0 := cell_later b7 p0
                      have p1 := cell_later b7 p1
                      have hT : v7.cell? ⟨v5.heap.size, 0, none⟩ = some (.slice (some ⟨E, 0, none⟩) 0 0) := by rw [hv7]; simp [go_sem]
                      have ng5T : g5 ≠ v5.heap.size := by omega
                      have nET : E ≠ v5.heap.size := by omega
                      have nDT : D ≠ v5.heap.size := by omega
                      rw [← hv7]
                      obtain ⟨T, hTe⟩ : ∃ z, z = v5.heap.size := ⟨_, rfl⟩
                      rw [← hTe] at hT ng5T nET nDT ⊢
                      have zT : T < v7.heap.size := by omega
                      have yT : wr.heap.size ≤ T := by omega
                      clear hv7 b7 e7 f7 hTe
                      refine hK.out _ _ ?_ (fun hHeld => ?_)
                      · exact ⟨p0, p1⟩
                      clear hK K
                      try simp only [List.getElem_toArray, List.getElem_cons_succ, List.getElem_cons_zero, Act.put, List.setIfInBounds_toArray, List.set_cons_zero, List.set_cons_succ]
                      refine wpAnyH_ready (rs := [8]) (by kernel_rfl) (by simp) ?_
                      refine AllReadyH.cons rfl (fun K hK => ?_) AllReadyH.nil
                      apply step_clz_one (Ls := Ls) (q := ⟨E, 0, []⟩) (base := wr.heap.size)
                      case hgd => rfl
                      case ho => rfl
                      case hty => rfl
                      case hs => rfl
                      case hown => exact unhide hO
                      case hbase => exact (unhide hbw).size
                      case hx => rfl
                      case hT => exact hT
                      case hl => omega
                      case' h => intro g8 c8 v8 o8 gr8 at8 lt8
                      have mv8 : Mov g5 _ v8 := mov_of_grown gr8
                      have zE : E < v8.heap.size := Nat.lt_of_lt_of_le zE mv8.size
                      have hD0 := mv8.cell hD0 (by simp only; omega)
                      have hD1 := mv8.cell hD1 (by simp only; omega)
                      have hDf0 := (World.frozen?_of_block (w := v7) (a := ⟨D, 0, none⟩) (mv8.2.2.2.2 D zD (by omega))).trans hDf0
                      have hDf1 := (World.frozen?_of_block (w := v7) (a := ⟨D, 1, none⟩) (mv8.2.2.2.2 D zD (by omega))).trans hDf1
                      have zD : D < v8.heap.size := Nat.lt_of_lt_of_le zD mv8.size
                      have p0 := mv8.cell p0 (by simp only; omega)
                      have p1 := mv8.cell p1 (by simp only; omega)
                      have hbw := hide ((unhide hbw).trans (mv8.below yg5 (unhide hbw).size))
                      have hF := hide o8
                      have zF := lt8
                      have ng8D : g8 ≠ D := by rcases at8 with e | e <;> omega
                      clear o8 gr8 at8 lt8 mv8 hO zO hT zT
                      refine hK.out _ _ ?_ (fun hHeld => ?_)
                      · exact ⟨p0, p1⟩
                      clear hK K
                      try simp only [List.getElem_toArray, List.getElem_cons_succ, List.getElem_cons_zero, Act.put, List.setIfInBounds_toArray, List.set_cons_zero, List.set_cons_succ]
                      refine wpAnyH_take (i := 9) (v := ?_) rfl (by kernel_rfl) (by kernel_rfl) (by kernel_rfl) (fun _ _ _ h => h) (Or.inl ⟨by rfl, ?_⟩) (by assumption) ?_
                      rotate_left
                      · (intro w hSw; (try dsimp only at hSw); first | (go_simp; done) | (go_simp; with_reducible rfl))
                      try simp only [List.getElem_toArray, List.getElem_cons_succ, List.getElem_cons_zero, Act.put, List.setIfInBounds_toArray, List.set_cons_zero, List.set_cons_succ]
                      refine wpAnyH_ready (rs := [11]) (by kernel_rfl) (by simp) ?_
                      refine AllReadyH.cons rfl (fun K hK => ?_) AllReadyH.nil
                      go_simp
                      refine hK.out _ _ ?_ (fun hHeld => ?_)
                      · exact ⟨by rw [World.cell?_setCell_other _ _ _ _ (by simp <;> omega), World.cell?_setCell_other _ _ _ _ (by simp <;> omega)]; exact p0, by rw [World.cell?_setCell_other _ _ _ _ (by simp <;> omega), World.cell?_setCell_other _ _ _ _ (by simp <;> omega)]; exact p1⟩
                      clear hK K
                      try simp only [List.getElem_toArray, List.getElem_cons_succ, List.getElem_cons_zero, Act.put, List.setIfInBounds_toArray, List.set_cons_zero, List.set_cons_succ]
                      refine wpAnyH_done (by kernel_rfl) ?_ _
                      have CF : ClzAt v8 0 (.slice (some ⟨g8, 0, none⟩) (Ls.length + 1) c8) (Ls ++ [⟨E, 0, []⟩]) := own_clz (unhide hF) (by have := own_base (unhide hF); omega) (fun q hq => by
                        rcases List.mem_append.1 hq with h | h
                        · exact ((unhide HC0).1 q h).later (unhide hbw)
                        · simp at h; subst h; exact ⟨by simp only; omega, zE, fun i hi => by simp at hi, by simp, fun x hx => by cases hx⟩)
                      have CG : ∀ q, q ∈ Ls ++ [⟨E, 0, []⟩] → q.g ≠ D := fun q hq => by
                        rcases List.mem_append.1 hq with h | h
                        · have := ((unhide HC0).1 q h).2.1; omega
                        · simp at h; subst h; simp only; omega
                      go_wp2_with fail
                      go_meet
                      exact ⟨D, g8, c8, E, rfl, by rw [World.cell?_setCell_other _ _ _ _ (by simp)]; exact World.cell?_setCell_same _ _ _ hD0, World.cell?_setCell_same _ _ _ (by rw [World.cell?_setCell_other _ _ _ _ (by simp)]; exact hD1), (CF.set CG (by simp [Value.ownBlock]; omega)).set CG (by simp [Value.ownBlock]; omega), (((unhide hbw).setCell yD _).setCell yD _)⟩
                    · go_simp
                      obtain ⟨v7, hv7⟩ : ∃ x, x = v2.alloc (.cells #[.slice (some ⟨E, 0, none⟩) 0 0] 32) := ⟨_, rfl⟩
                      have b7 : Below v2.heap.size v2 v7 := by rw [hv7]; exact (Below.refl _ _).alloc (Nat.le_refl _) _
                      have e7 : v2.heap.size < v7.heap.size := by rw [hv7]; simp
                      have f7 : wr.heap.size ≤ v2.heap.size := (unhide hbw).size
                      have hX : Hid (v7.heap[X]? = some (.cells #[] 32 (0, 0))) := (b7.block _ (by omega)).trans (unhide hX)
                      have hD0 := cell_later b7 hD0
                      have hD1 := cell_later b7 hD1
                      have hDf0 := (b7.frozen (p := ⟨D, 0, none⟩) zD).trans hDf0
                      have hDf1 := (b7.frozen (p := ⟨D, 1, none⟩) zD).trans hDf1
                      have zX : X < v7.heap.size := Nat.lt_of_lt_of_le zX b7.size
                      have zE : E < v7.heap.size := Nat.lt_of_lt_of_le zE b7.size
                      have zD : D < v7.heap.size := Nat.lt_of_lt_of_le zD b7.size
                      have hbw := hide ((unhide hbw).trans (b7.mono (unhide hbw).size))
                      have p0 := cell_later b7 p0
                      have p1 := cell_later b7 p1
                      have hT : v7.cell? ⟨v2.heap.size, 0, none⟩ = some (.slice (some ⟨E, 0, none⟩) 0 0) := by rw [hv7]; simp [go_sem]
                      have nXT : X ≠ v2.heap.size := by omega
                      have nET : E ≠ v2.heap.size := by omega
                      have nDT : D ≠ v2.heap.size := by omega
                      rw [← hv7]
                      obtain ⟨T, hTe⟩ : ∃ z, z = v2.heap.size := ⟨_, rfl⟩
                      rw [← hTe] at hT nXT nET nDT ⊢
                      have zT : T < v7.heap.size := by omega
                      have yT : wr.heap.size ≤ T := by omega
                      clear hv7 b7 e7 f7 hTe
                      refine hK.out _ _ ?_ (fun hHeld => ?_)
                      · exact ⟨p0, p1⟩
                      clear hK K
                      try simp only [List.getElem_toArray, List.getElem_cons_succ, List.getElem_cons_zero, Act.put, List.setIfInBounds_toArray, List.set_cons_zero, List.set_cons_succ]
                      refine wpAnyH_ready (rs := [5]) (by kernel_rfl) (by simp) ?_
                      refine AllReadyH.cons rfl (fun K hK => ?_) AllReadyH.nil
                      apply step_clz_copy (R := 0) (Ls := Ls) (base := wr.heap.size)
                      case hgd => rfl
                      case ho => rfl
                      case hty => rfl
                      case hs => rfl
                      case hX => exact unhide hX
                      case hbX => exact yX
                      case hbase => exact (unhide hbw).size
                      case hx => rfl
                      case hc => exact (unhide HC0).later (unhide hbw)
                      case hl => omega
                      case' h => intro g5 c5 v5 o5 gr5 at5 lt5
                      have mv5 : Mov X _ v5 := mov_of_grown gr5
                      have hT := mv5.cell hT (by simp only; omega)
                      have zT : T < v5.heap.size := Nat.lt_of_lt_of_le zT mv5.size
                      have zE : E < v5.heap.size := Nat.lt_of_lt_of_le zE mv5.size
                      have hD0 := mv5.cell hD0 (by simp only; omega)
                      have hD1 := mv5.cell hD1 (by simp only; omega)
                      have hDf0 := (World.frozen?_of_block (w := v7) (a := ⟨D, 0, none⟩) (mv5.2.2.2.2 D zD (by omega))).trans hDf0
                      have hDf1 := (World.frozen?_of_block (w := v7) (a := ⟨D, 1, none⟩) (mv5.2.2.2.2 D zD (by omega))).trans hDf1
                      have zD : D < v5.heap.size := Nat.lt_of_lt_of_le zD mv5.size
                      have p0 := mv5.cell p0 (by simp only; omega)
                      have p1 := mv5.cell p1 (by simp only; omega)
                      have hbw := hide ((unhide hbw).trans (mv5.below yX (unhide hbw).size))
                      have hO := hide o5
                      have zO := lt5
                      have yg5 : wr.heap.size ≤ g5 := own_base o5
                      have ng5T : g5 ≠ T := by rcases at5 with e | e <;> omega
                      have ng5E : g5 ≠ E := by rcases at5 with e | e <;> omega
                      have ng5D : g5 ≠ D := by rcases at5 with e | e <;> omega
                      clear o5 gr5 at5 lt5 mv5 hX zX yX
                      refine hK.out _ _ ?_ (fun hHeld => ?_)
                      · exact ⟨p0, p1⟩
                      clear hK K
                      try simp only [List.getElem_toArray, List.getElem_cons_succ, List.getElem_cons_zero, Act.put, List.setIfInBounds_toArray, List.set_cons_zero, List.set_cons_succ]
                      refine wpAnyH_ready (rs := [8]) (by kernel_rfl) (by simp) ?_
                      refine AllReadyH.cons rfl (fun K hK => ?_) AllReadyH.nil
                      apply step_clz_one (Ls := Ls) (q := ⟨E, 0, []⟩) (base := wr.heap.size)
                      case hgd => rfl
                      case ho => rfl
                      case hty => rfl
                      case hs => rfl
                      case hown => exact unhide hO
                      case hbase => exact (unhide hbw).size
                      case hx => rfl
                      case hT => exact hT
                      case hl => omega
                      case' h => intro g8 c8 v8 o8 gr8 at8 lt8
                      have mv8 : Mov g5 _ v8 := mov_of_grown gr8
                      have zE : E < v8.heap.size := Nat.lt_of_lt_of_le zE mv8.size
                      have hD0 := mv8.cell hD0 (by simp only; omega)
                      have hD1 := mv8.cell hD1 (by simp only; omega)
                      have hDf0 := (World.frozen?_of_block (w := v5) (a := ⟨D, 0, none⟩) (mv8.2.2.2.2 D zD (by omega))).trans hDf0
                      have hDf1 := (World.frozen?_of_block (w := v5) (a := ⟨D, 1, none⟩) (mv8.2.2.2.2 D zD (by omega))).trans hDf1
                      have zD : D < v8.heap.size := Nat.lt_of_lt_of_le zD mv8.size
                      have p0 := mv8.cell p0 (by simp only; omega)
                      have p1 := mv8.cell p1 (by simp only; omega)
                      have hbw := hide ((unhide hbw).trans (mv8.below yg5 (unhide hbw).size))
                      have hF := hide o8
                      have zF := lt8
                      have ng8D : g8 ≠ D := by rcases at8 with e | e <;> omega
                      clear o8 gr8 at8 lt8 mv8 hO zO hT zT
                      refine hK.out _ _ ?_ (fun hHeld => ?_)
                      · exact ⟨p0, p1⟩
                      clear hK K
                      try simp only [List.getElem_toArray, List.getElem_cons_succ, List.getElem_cons_zero, Act.put, List.setIfInBounds_toArray, List.set_cons_zero, List.set_cons_succ]
                      refine wpAnyH_take (i := 9) (v := ?_) rfl (by kernel_rfl) (by kernel_rfl) (by kernel_rfl) (fun _ _ _ h => h) (Or.inl ⟨by rfl, ?_⟩) (by assumption) ?_
                      rotate_left
                      · (intro w hSw; (try dsimp only at hSw); first | (go_simp; done) | (go_simp; with_reducible rfl))
                      try simp only [List.getElem_toArray, List.getElem_cons_succ, List.getElem_cons_zero, Act.put, List.setIfInBounds_toArray, List.set_cons_zero, List.set_cons_succ]
                      refine wpAnyH_ready (rs := [11]) (by kernel_rfl) (by simp) ?_
                      refine AllReadyH.cons rfl (fun K hK => ?_) AllReadyH.nil
                      go_simp
                      refine hK.out _ _ ?_ (fun hHeld => ?_)
                      · exact ⟨by rw [World.cell?_setCell_other _ _ _ _ (by simp <;> omega), World.cell?_setCell_other _ _ _ _ (by simp <;> omega)]; exact p0, by rw [World.cell?_setCell_other _ _ _ _ (by simp <;> omega), World.cell?_setCell_other _ _ _ _ (by simp <;> omega)]; exact p1⟩
                      clear hK K
                      try simp only [List.getElem_toArray, List.getElem_cons_succ, List.getElem_cons_zero, Act.put, List.setIfInBounds_toArray, List.set_cons_zero, List.set_cons_succ]
                      refine wpAnyH_done (by kernel_rfl) ?_ _
                      have CF : ClzAt v8 0 (.slice (some ⟨g8, 0, none⟩) (Ls.length + 1) c8) (Ls ++ [⟨E, 0, []⟩]) := own_clz (unhide hF) (by have := own_base (unhide hF); omega) (fun q hq => by
                        rcases List.mem_append.1 hq with h | h
                        · exact ((unhide HC0).1 q h).later (unhide hbw)
                        · simp at h; subst h; exact ⟨by simp only; omega, zE, fun i hi => by simp at hi, by simp, fun x hx => by cases hx⟩)
                      have CG : ∀ q, q ∈ Ls ++ [⟨E, 0, []⟩] → q.g ≠ D := fun q hq => by
                        rcases List.mem_append.1 hq with h | h
                        · have := ((unhide HC0).1 q h).2.1; omega
                        · simp at h; subst h; simp only; omega
                      go_wp2_with fail
                      go_meet
                      exact ⟨D, g8, c8, E, rfl, by rw [World.cell?_setCell_other _ _ _ _ (by simp)]; exact World.cell?_setCell_same _ _ _ hD0, World.cell?_setCell_same _ _ _ (by rw [World.cell?_setCell_other _ _ _ _ (by simp)]; exact hD1), (CF.set CG (by simp [Value.ownBlock]; omega)).set CG (by simp [Value.ownBlock]; omega), (((unhide hbw).setCell yD _).setCell yD _)⟩
                  · go_simp
                    obtain ⟨v7, hv7⟩ : ∃ x, x = v10.alloc (.cells #[.slice (some ⟨E, 0, none⟩) 0 0] 32) := ⟨_, rfl⟩
                    have b7 : Below v10.heap.size v10 v7 := by rw [hv7]; exact (Below.refl _ _).alloc (Nat.le_refl _) _
                    have e7 : v10.heap.size < v7.heap.size := by rw [hv7]; simp
                    have f7 : wr.heap.size ≤ v10.heap.size := (unhide hbw).size
                    have hD0 := cell_later b7 hD0
                    have hD1 := cell_later b7 hD1
                    have hDf0 := (b7.frozen (p := ⟨D, 0, none⟩) zD).trans hDf0
                    have hDf1 := (b7.frozen (p := ⟨D, 1, none⟩) zD).trans hDf1
                    have zE : E < v7.heap.size := Nat.lt_of_lt_of_le zE b7.size
                    have zD : D < v7.heap.size := Nat.lt_of_lt_of_le zD b7.size
                    have hbw := hide ((unhide hbw).trans (b7.mono (unhide hbw).size))
                    have p0 := cell_later b7 p0
                    have p1 := cell_later b7 p1
                    have hT : v7.cell? ⟨v10.heap.size, 0, none⟩ = some (.slice (some ⟨E, 0, none⟩) 0 0) := by rw [hv7]; simp [go_sem]
                    have nET : E ≠ v10.heap.size := by omega
                    have nDT : D ≠ v10.heap.size := by omega
                    rw [← hv7]
                    obtain ⟨T, hTe⟩ : ∃ z, z = v10.heap.size := ⟨_, rfl⟩
                    rw [← hTe] at hT nET nDT ⊢
                    have zT : T < v7.heap.size := by omega
                    have yT : wr.heap.size ≤ T := by omega
                    clear hv7 b7 e7 f7 hTe
                    refine hK.out _ _ ?_ (fun hHeld => ?_)
                    · exact ⟨p0, p1⟩
                    clear hK K
                    try simp only [List.getElem_toArray, List.getElem_cons_succ, List.getElem_cons_zero, Act.put, List.setIfInBounds_toArray, List.set_cons_zero, List.set_cons_succ]
                    refine wpAnyH_ready (rs := [2]) (by kernel_rfl) (by simp) ?_
                    refine AllReadyH.cons rfl (fun K hK => ?_) AllReadyH.nil
                    go_simp
                    obtain ⟨v2, hv2⟩ : ∃ x, x = v7.alloc (.cells #[] 32) := ⟨_, rfl⟩
                    have b2 : Below v7.heap.size v7 v2 := by rw [hv2]; exact (Below.refl _ _).alloc (Nat.le_refl _) _
                    have e2 : v7.heap.size < v2.heap.size := by rw [hv2]; simp
                    have f2 : wr.heap.size ≤ v7.heap.size := (unhide hbw).size
                    have hT := cell_later b2 hT
                    have hD0 := cell_later b2 hD0
                    have hD1 := cell_later b2 hD1
                    have hDf0 := (b2.frozen (p := ⟨D, 0, none⟩) zD).trans hDf0
                    have hDf1 := (b2.frozen (p := ⟨D, 1, none⟩) zD).trans hDf1
                    have zT : T < v2.heap.size := Nat.lt_of_lt_of_le zT b2.size
                    have zE : E < v2.heap.size := Nat.lt_of_lt_of_le zE b2.size
                    have zD : D < v2.heap.size := Nat.lt_of_lt_of_le zD b2.size
                    have hbw := hide ((unhide hbw).trans (b2.mono (unhide hbw).size))
                    have p0 := cell_later b2 p0
                    have p1 := cell_later b2 p1
                    have hX : Hid (v2.heap[v7.heap.size]? = some (.cells #[] 32 (0, 0))) := by show _ = _; rw [hv2]; exact alloc_at rfl
                    have nTX : T ≠ v7.heap.size := by omega
                    have nEX : E ≠ v7.heap.size := by omega
                    have nDX : D ≠ v7.heap.size := by omega
                    rw [← hv2]
                    obtain ⟨X, hXe⟩ : ∃ z, z = v7.heap.size := ⟨_, rfl⟩
                    rw [← hXe] at hX nTX nEX nDX ⊢
                    have zX : X < v2.heap.size := by omega
                    have yX : wr.heap.size ≤ X := by omega
                    clear hv2 b2 e2 f2 hXe
                    refine hK.out _ _ ?_ (fun hHeld => ?_)
                    · exact ⟨p0, p1⟩
                    clear hK K
                    try simp only [List.getElem_toArray, List.getElem_cons_succ, List.getElem_cons_zero, Act.put, List.setIfInBounds_toArray, List.set_cons_zero, List.set_cons_succ]
                    refine wpAnyH_ready (rs := [5]) (by kernel_rfl) (by simp) ?_
                    refine AllReadyH.cons rfl (fun K hK => ?_) AllReadyH.nil
                    apply step_clz_copy (R := 0) (Ls := Ls) (base := wr.heap.size)
                    case hgd => rfl
                    case ho => rfl
                    case hty => rfl
                    case hs => rfl
                    case hX => exact unhide hX
                    case hbX => exact yX
                    case hbase => exact (unhide hbw).size
                    case hx => rfl
                    case hc => exact (unhide HC0).later (unhide hbw)
                    case hl => omega
                    case' h => intro g5 c5 v5 o5 gr5 at5 lt5
                    have mv5 : Mov X _ v5 := mov_of_grown gr5
                    have hT := mv5.cell hT (by simp only; omega)
                    have zT : T < v5.heap.size := Nat.lt_of_lt_of_le zT mv5.size
                    have zE : E < v5.heap.size := Nat.lt_of_lt_of_le zE mv5.size
                    have hD0 := mv5.cell hD0 (by simp only; omega)
                    have hD1 := mv5.cell hD1 (by simp only; omega)
                    have hDf0 := (World.frozen?_of_block (w := v2) (a := ⟨D, 0, none⟩) (mv5.2.2.2.2 D zD (by omega))).trans hDf0
                    have hDf1 := (World.frozen?_of_block (w := v2) (a := ⟨D, 1, none⟩) (mv5.2.2.2.2 D zD (by omega))).trans hDf1
                    have zD : D < v5.heap.size := Nat.lt_of_lt_of_le zD mv5.size
                    have p0 := mv5.cell p0 (by simp only; omega)
                    have p1 := mv5.cell p1 (by simp only; omega)
                    have hbw := hide ((unhide hbw).trans (mv5.below yX (unhide hbw).size))
                    have hO := hide o5
                    have zO := lt5
                    have yg5 : wr.heap.size ≤ g5 := own_base o5
                    have ng5T : g5 ≠ T := by rcases at5 with e | e <;> omega
                    have ng5E : g5 ≠ E := by rcases at5 with e | e <;> omega
                    have ng5D : g5 ≠ D := by rcases at5 with e | e <;> omega
                    clear o5 gr5 at5 lt5 mv5 hX zX yX
                    refine hK.out _ _ ?_ (fun hHeld => ?_)
                    · exact ⟨p0, p1⟩
                    clear hK K
                    try simp only [List.getElem_toArray, List.getElem_cons_succ, List.getElem_cons_zero, Act.put, List.setIfInBounds_toArray, List.set_cons_zero, List.set_cons_succ]
                    refine wpAnyH_ready (rs := [8]) (by kernel_rfl) (by simp) ?_
                    refine AllReadyH.cons rfl (fun K hK => ?_) AllReadyH.nil
                    apply step_clz_one (Ls := Ls) (q := ⟨E, 0, []⟩) (base := wr.heap.size)
                    case hgd => rfl
                    case ho => rfl
                    case hty => rfl
                    case hs => rfl
                    case hown => exact unhide hO
                    case hbase => exact (unhide hbw).size
                    case hx => rfl
                    case hT => exact hT
                    case hl => omega
                    case' h => intro g8 c8 v8 o8 gr8 at8 lt8
                    have mv8 : Mov g5 _ v8 := mov_of_grown gr8
                    have zE : E < v8.heap.size := Nat.lt_of_lt_of_le zE mv8.size
                    have hD0 := mv8.cell hD0 (by simp only; omega)
                    have hD1 := mv8.cell hD1 (by simp only; omega)
                    have hDf0 := (World.frozen?_of_block (w := v5) (a := ⟨D, 0, none⟩) (mv8.2.2.2.2 D zD (by omega))).trans hDf0
                    have hDf1 := (World.frozen?_of_block (w := v5) (a := ⟨D, 1, none⟩) (mv8.2.2.2.2 D zD (by omega))).trans hDf1
                    have zD : D < v8.heap.size := Nat.lt_of_lt_of_le zD mv8.size
                    have p0 := mv8.cell p0 (by simp only; omega)
                    have p1 := mv8.cell p1 (by simp only; omega)
                    have hbw := hide ((unhide hbw).trans (mv8.below yg5 (unhide hbw).size))
                    have hF := hide o8
                    have zF := lt8
                    have ng8D : g8 ≠ D := by rcases at8 with e | e <;> omega
                    clear o8 gr8 at8 lt8 mv8 hO zO hT zT
                    refine hK.out _ _ ?_ (fun hHeld => ?_)
                    · exact ⟨p0, p1⟩
                    clear hK K
                    try simp only [List.getElem_toArray, List.getElem_cons_succ, List.getElem_cons_zero, Act.put, List.setIfInBounds_toArray, List.set_cons_zero, List.set_cons_succ]
                    refine wpAnyH_take (i := 9) (v := ?_) rfl (by kernel_rfl) (by kernel_rfl) (by kernel_rfl) (fun _ _ _ h => h) (Or.inl ⟨by rfl, ?_⟩) (by assumption) ?_
                    rotate_left
                    · (intro w hSw; (try dsimp only at hSw); first | (go_simp; done) | (go_simp; with_reducible rfl))
                    try simp only [List.getElem_toArray, List.getElem_cons_succ, List.getElem_cons_zero, Act.put, List.setIfInBounds_toArray, List.set_cons_zero, List.set_cons_succ]
                    refine wpAnyH_ready (rs := [11]) (by kernel_rfl) (by simp) ?_
                    refine AllReadyH.cons rfl (fun K hK => ?_) AllReadyH.nil
                    go_simp
                    refine hK.out _ _ ?_ (fun hHeld => ?_)
                    · exact ⟨by rw [World.cell?_setCell_other _ _ _ _ (by simp <;> omega), World.cell?_setCell_other _ _ _ _ (by simp <;> omega)]; exact p0, by rw [World.cell?_setCell_other _ _ _ _ (by simp <;> omega), World.cell?_setCell_other _ _ _ _ (by simp <;> omega)]; exact p1⟩
                    clear hK K
                    try simp only [List.getElem_toArray, List.getElem_cons_succ, List.getElem_cons_zero, Act.put, List.setIfInBounds_toArray, List.set_cons_zero, List.set_cons_succ]
                    refine wpAnyH_done (by kernel_rfl) ?_ _
                    have CF : ClzAt v8 0 (.slice (some ⟨g8, 0, none⟩) (Ls.length + 1) c8) (Ls ++ [⟨E, 0, []⟩]) := own_clz (unhide hF) (by have := own_base (unhide hF); omega) (fun q hq => by
                      rcases List.mem_append.1 hq with h | h
                      · exact ((unhide HC0).1 q h).later (unhide hbw)
                      · simp at h; subst h; exact ⟨by simp only; omega, zE, fun i hi => by simp at hi, by simp, fun x hx => by cases hx⟩)
                    have CG : ∀ q, q ∈ Ls ++ [⟨E, 0, []⟩] → q.g ≠ D := fun q hq => by
                      rcases List.mem_append.1 hq with h | h
                      · have := ((unhide HC0).1 q h).2.1; omega
                      · simp at h; subst h; simp only; omega
                    go_wp2_with fail
                    go_meet
                    exact ⟨D, g8, c8, E, rfl, by rw [World.cell?_setCell_other _ _ _ _ (by simp)]; exact World.cell?_setCell_same _ _ _ hD0, World.cell?_setCell_same _ _ _ (by rw [World.cell?_setCell_other _ _ _ _ (by simp)]; exact hD1), (CF.set CG (by simp [Value.ownBlock]; omega)).set CG (by simp [Value.ownBlock]; omega), (((unhide hbw).setCell yD _).setCell yD _)⟩
              · go_simp
                obtain ⟨v10, hv10⟩ : ∃ x, x = wd.alloc (.cells #[.int .i64 0, .slice none 0 0] 25) := ⟨_, rfl⟩
                have b10 : Below wd.heap.size wd v10 := by rw [hv10]; exact (Below.refl _ _).alloc (Nat.le_refl _) _
                have e10 : wd.heap.size < v10.heap.size := by rw [hv10]; simp
                have f10 : wr.heap.size ≤ wd.heap.size := (unhide hbw).size
                have hbw := hide ((unhide hbw).trans (b10.mono (unhide hbw).size))
                have p0 := cell_later b10 p0
                have p1 := cell_later b10 p1
                have hD0 : v10.cell? ⟨wd.heap.size, 0, none⟩ = some (.int .i64 0) := by rw [hv10]; simp [go_sem]
                have hD1 : v10.cell? ⟨wd.heap.size, 1, none⟩ = some (.slice none 0 0) := by rw [hv10]; simp [go_sem]
                have hDf0 : v10.frozen? ⟨wd.heap.size, 0, none⟩ = false := by rw [hv10]; simp [go_sem]
                have hDf1 : v10.frozen? ⟨wd.heap.size, 1, none⟩ = false := by rw [hv10]; simp [go_sem]
                rw [← hv10]
                obtain ⟨D, hDe⟩ : ∃ z, z = wd.heap.size := ⟨_, rfl⟩
                rw [← hDe] at hD0 hD1 hDf0 hDf1  ⊢
                have zD : D < v10.heap.size := by omega
                have yD : wr.heap.size ≤ D := by omega
                clear hv10 b10 e10 f10 hDe
                refine hK.out _ _ ?_ (fun hHeld => ?_)
                · exact ⟨p0, p1⟩
                clear hK K
                try simp only [List.getElem_toArray, List.getElem_cons_succ, List.getElem_cons_zero, Act.put, List.setIfInBounds_toArray, List.set_cons_zero, List.set_cons_succ]
                refine wpAnyH_ready (rs := [2, 6]) (by kernel_rfl) (by simp) ?_
                refine AllReadyH.cons rfl (fun K hK => ?_) (AllReadyH.cons rfl (fun K hK => ?_) AllReadyH.nil)
                · go_simp
                  obtain ⟨v2, hv2⟩ : ∃ x, x = v10.alloc (.cells #[] 32) := ⟨_, rfl⟩
                  have b2 : Below v10.heap.size v10 v2 := by rw [hv2]; exact (Below.refl _ _).alloc (Nat.le_refl _) _
                  have e2 : v10.heap.size < v2.heap.size := by rw [hv2]; simp
                  have f2 : wr.heap.size ≤ v10.heap.size := (unhide hbw).size
                  have hD0 := cell_later b2 hD0
                  have hD1 := cell_later b2 hD1
                  have hDf0 := (b2.frozen (p := ⟨D, 0, none⟩) zD).trans hDf0
                  have hDf1 := (b2.frozen (p := ⟨D, 1, none⟩) zD).trans hDf1
                  have zD : D < v2.heap.size := Nat.lt_of_lt_of_le zD b2.size
                  have hbw := hide ((unhide hbw).trans (b2.mono (unhide hbw).size))
                  have p0 := cell_later b2 p0
                  have p1 := cell_later b2 p1
                  have hX : Hid (v2.heap[v10.heap.size]? = some (.cells #[] 32 (0, 0))) := by show _ = _; rw [hv2]; exact alloc_at rfl
                  have nDX : D ≠ v10.heap.size := by omega
                  rw [← hv2]
                  obtain ⟨X, hXe⟩ : ∃ z, z = v10.heap.size := ⟨_, rfl⟩
                  rw [← hXe] at hX nDX ⊢
                  have zX : X < v2.heap.size := by omega
                  have yX : wr.heap.size ≤ X := by omega
                  clear hv2 b2 e2 f2 hXe
                  refine hK.out _ _ ?_ (fun hHeld => ?_)
                  · exact ⟨p0, p1⟩
                  clear hK K
                  try simp only [List.getElem_toArray, List.getElem_cons_succ, List.getElem_cons_zero, Act.put, List.setIfInBounds_toArray, List.set_cons_zero, List.set_cons_succ]
                  refine wpAnyH_ready (rs := [5, 6]) (by kernel_rfl) (by simp) ?_
                  refine AllReadyH.cons rfl (fun K hK => ?_) (AllReadyH.cons rfl (fun K hK => ?_) AllReadyH.nil)
                  · apply step_clz_copy (R := 0) (Ls := Ls) (base := wr.heap.size)
                    case hgd => rfl
                    case ho => rfl
                    case hty => rfl
                    case hs => rfl
                    case hX => exact unhide hX
                    case hbX => exact yX
                    case hbase => exact (unhide hbw).size
                    case hx => rfl
                    case hc => exact (unhide HC0).later (unhide hbw)
                    case hl => omega
                    case' h => intro g5 c5 v5 o5 gr5 at5 lt5
                    have mv5 : Mov X _ v5 := mov_of_grown gr5
                    have hD0 := mv5.cell hD0 (by simp only; omega)
                    have hD1 := mv5.cell hD1 (by simp only; omega)
                    have hDf0 := (World.frozen?_of_block (w := v2) (a := ⟨D, 0, none⟩) (mv5.2.2.2.2 D zD (by omega))).trans hDf0
                    have hDf1 := (World.frozen?_of_block (w := v2) (a := ⟨D, 1, none⟩) (mv5.2.2.2.2 D zD (by omega))).trans hDf1
                    have zD : D < v5.heap.size := Nat.lt_of_lt_of_le zD mv5.size
                    have p0 := mv5.cell p0 (by simp only; omega)
                    have p1 := mv5.cell p1 (by simp only; omega)
                    have hbw := hide ((unhide hbw).trans (mv5.below yX (unhide hbw).size))
                    have hO := hide o5
                    have zO := lt5
                    have yg5 : wr.heap.size ≤ g5 := own_base o5
                    have ng5D : g5 ≠ D := by rcases at5 with e | e <;> omega
                    clear o5 gr5 at5 lt5 mv5 hX zX yX
                    refine hK.out _ _ ?_ (fun hHeld => ?_)
                    · exact ⟨p0, p1⟩
                    clear hK K
                    try simp only [List.getElem_toArray, List.getElem_cons_succ, List.getElem_cons_zero, Act.put, List.setIfInBounds_toArray, List.set_cons_zero, List.set_cons_succ]
                    refine wpAnyH_ready (rs := [6]) (by kernel_rfl) (by simp) ?_
                    refine AllReadyH.cons rfl (fun K hK => ?_) AllReadyH.nil
                    go_simp
                    obtain ⟨v6, hv6⟩ : ∃ x, x = v5.alloc (.cells #[] 3) := ⟨_, rfl⟩
                    have b6 : Below v5.heap.size v5 v6 := by rw [hv6]; exact (Below.refl _ _).alloc (Nat.le_refl _) _
                    have e6 : v5.heap.size < v6.heap.size := by rw [hv6]; simp
                    have f6 : wr.heap.size ≤ v5.heap.size := (unhide hbw).size
                    have hO := hide (World.ownsRow.kept (w' := v6) (unhide hO) (grown_below b6) (by simp [Value.ownBlock]))
                    have hD0 := cell_later b6 hD0
                    have hD1 := cell_later b6 hD1
                    have hDf0 := (b6.frozen (p := ⟨D, 0, none⟩) zD).trans hDf0
                    have hDf1 := (b6.frozen (p := ⟨D, 1, none⟩) zD).trans hDf1
                    have zO : g5 < v6.heap.size := Nat.lt_of_lt_of_le zO b6.size
                    have zD : D < v6.heap.size := Nat.lt_of_lt_of_le zD b6.size
                    have hbw := hide ((unhide hbw).trans (b6.mono (unhide hbw).size))
                    have p0 := cell_later b6 p0
                    have p1 := cell_later b6 p1
                    have ng5E : g5 ≠ v5.heap.size := by omega
                    have nDE : D ≠ v5.heap.size := by omega
                    rw [← hv6]
                    obtain ⟨E, hEe⟩ : ∃ z, z = v5.heap.size := ⟨_, rfl⟩
                    rw [← hEe] at  ng5E nDE ⊢
                    have zE : E < v6.heap.size := by omega
                    have yE : wr.heap.size ≤ E := by omega
                    clear hv6 b6 e6 f6 hEe
                    refine hK.out _ _ ?_ (fun hHeld => ?_)
                    · exact ⟨p0, p1⟩
                    clear hK K
                    try simp only [List.getElem_toArray, List.getElem_cons_succ, List.getElem_cons_zero, Act.put, List.setIfInBounds_toArray, List.set_cons_zero, List.set_cons_succ]
                    refine wpAnyH_ready (rs := [7]) (by kernel_rfl) (by simp) ?_
                    refine AllReadyH.cons rfl (fun K hK => ?_) AllReadyH.nil
                    go_simp
                    obtain ⟨v7, hv7⟩ : ∃ x, x = v6.alloc (.cells #[.slice (some ⟨E, 0, none⟩) 0 0] 32) := ⟨_, rfl⟩
                    have b7 : Below v6.heap.size v6 v7 := by rw [hv7]; exact (Below.refl _ _).alloc (Nat.le_refl _) _
                    have e7 : v6.heap.size < v7.heap.size := by rw [hv7]; simp
                    have f7 : wr.heap.size ≤ v6.heap.size := (unhide hbw).size
                    have hO := hide (World.ownsRow.kept (w' := v7) (unhide hO) (grown_below b7) (by simp [Value.ownBlock]))
                    have hD0 := cell_later b7 hD0
                    have hD1 := cell_later b7 hD1
                    have hDf0 := (b7.frozen (p := ⟨D, 0, none⟩) zD).trans hDf0
                    have hDf1 := (b7.frozen (p := ⟨D, 1, none⟩) zD).trans hDf1
                    have zO : g5 < v7.heap.size := Nat.lt_of_lt_of_le zO b7.size
                    have zE : E < v7.heap.size := Nat.lt_of_lt_of_le zE b7.size
                    have zD : D < v7.heap.size := Nat.lt_of_lt_of_le zD b7.size
                    have hbw := hide ((unhide hbw).trans (b7.mono (unhide hbw).size))
                    have p0 := cell_later b7 p0
                    have p1 := cell_later b7 p1
                    have hT : v7.cell? ⟨v6.heap.size, 0, none⟩ = some (.slice (some ⟨E, 0, none⟩) 0 0) := by rw [hv7]; simp [go_sem]
                    have ng5T : g5 ≠ v6.heap.size := by omega
                    have nET : E ≠ v6.heap.size := by omega
                    have nDT : D ≠ v6.heap.size := by omega
                    rw [← hv7]
                    obtain ⟨T, hTe⟩ : ∃ z, z = v6.heap.size := ⟨_, rfl⟩
                    rw [← hTe] at hT ng5T nET nDT ⊢
                    have zT : T < v7.heap.size := by omega
                    have yT : wr.heap.size ≤ T := by omega
                    clear hv7 b7 e7 f7 hTe
                    refine hK.out _ _ ?_ (fun hHeld => ?_)
                    · exact ⟨p0, p1⟩
                    clear hK K
                    try simp only [List.getElem_toArray, List.getElem_cons_succ, List.getElem_cons_zero, Act.put, List.setIfInBounds_toArray, List.set_cons_zero, List.set_cons_succ]
                    refine wpAnyH_ready (rs := [8]) (by kernel_rfl) (by simp) ?_
                    refine AllReadyH.cons rfl (fun K hK => ?_) AllReadyH.nil
                    apply step_clz_one (Ls := Ls) (q := ⟨E, 0, []⟩) (base := wr.heap.size)
                    case hgd => rfl
                    case ho => rfl
                    case hty => rfl
                    case hs => rfl
                    case hown => exact unhide hO
                    case hbase => exact (unhide hbw).size
                    case hx => rfl
                    case hT => exact hT
                    case hl => omega
                    case' h => intro g8 c8 v8 o8 gr8 at8 lt8
                    have mv8 : Mov g5 _ v8 := mov_of_grown gr8
                    have zE : E < v8.heap.size := Nat.lt_of_lt_of_le zE mv8.size
                    have hD0 := mv8.cell hD0 (by simp only; omega)
                    have hD1 := mv8.cell hD1 (by simp only; omega)
                    have hDf0 := (World.frozen?_of_block (w := v7) (a := ⟨D, 0, none⟩) (mv8.2.2.2.2 D zD (by omega))).trans hDf0
                    have hDf1 := (World.frozen?_of_block (w := v7) (a := ⟨D, 1, none⟩) (mv8.2.2.2.2 D zD (by omega))).trans hDf1
                    have zD : D < v8.heap.size := Nat.lt_of_lt_of_le zD mv8.size
                    have p0 := mv8.cell p0 (by simp only; omega)
                    have p1 := mv8.cell p1 (by simp only; omega)
                    have hbw := hide ((unhide hbw).trans (mv8.below yg5 (unhide hbw).size))
                    have hF := hide o8
                    have zF := lt8
                    have ng8D : g8 ≠ D := by rcases at8 with e | e <;> omega
                    clear o8 gr8 at8 lt8 mv8 hO zO hT zT
                    refine hK.out _ _ ?_ (fun hHeld => ?_)
                    · exact ⟨p0, p1⟩
                    clear hK K
                    try simp only [List.getElem_toArray, List.getElem_cons_succ, List.getElem_cons_zero, Act.put, List.setIfInBounds_toArray, List.set_cons_zero, List.set_cons_succ]
                    refine wpAnyH_take (i := 9) (v := ?_) rfl (by kernel_rfl) (by kernel_rfl) (by kernel_rfl) (fun _ _ _ h => h) (Or.inl ⟨by rfl, ?_⟩) (by assumption) ?_
                    rotate_left
                    · (intro w hSw; (try dsimp only at hSw); first | (go_simp; done) | (go_simp; with_reducible rfl))
                    try simp only [List.getElem_toArray, List.getElem_cons_succ, List.getElem_cons_zero, Act.put, List.setIfInBounds_toArray, List.set_cons_zero, List.set_cons_succ]
                    refine wpAnyH_ready (rs := [11]) (by kernel_rfl) (by simp) ?_
                    refine AllReadyH.cons rfl (fun K hK => ?_) AllReadyH.nil
                    go_simp
                    refine hK.out _ _ ?_ (fun hHeld => ?_)
                    · exact ⟨by rw [World.cell?_setCell_other _ _ _ _ (by simp <;> omega), World.cell?_setCell_other _ _ _ _ (by simp <;> omega)]; exact p0, by rw [World.cell?_setCell_other _ _ _ _ (by simp <;> omega), World.cell?_setCell_other _ _ _ _ (by simp <;> omega)]; exact p1⟩
                    clear hK K
                    try simp only [List.getElem_toArray, List.getElem_cons_succ, List.getElem_cons_zero, Act.put, List.setIfInBounds_toArray, List.set_cons_zero, List.set_cons_succ]
                    refine wpAnyH_done (by kernel_rfl) ?_ _
                    have CF : ClzAt v8 0 (.slice (some ⟨g8, 0, none⟩) (Ls.length + 1) c8) (Ls ++ [⟨E, 0, []⟩]) := own_clz (unhide hF) (by have := own_base (unhide hF); omega) (fun q hq => by
                      rcases List.mem_append.1 hq with h | h
                      · exact ((unhide HC0).1 q h).later (unhide hbw)
                      · simp at h; subst h; exact ⟨by simp only; omega, zE, fun i hi => by simp at hi, by simp, fun x hx => by cases hx⟩)
                    have CG : ∀ q, q ∈ Ls ++ [⟨E, 0, []⟩] → q.g ≠ D := fun q hq => by
                      rcases List.mem_append.1 hq with h | h
                      · have := ((unhide HC0).1 q h).2.1; omega
                      · simp at h; subst h; simp only; omega
                    go_wp2_with fail
                    go_meet
                    exact ⟨D, g8, c8, E, rfl, by rw [World.cell?_setCell_other _ _ _ _ (by simp)]; exact World.cell?_setCell_same _ _ _ hD0, World.cell?_setCell_same _ _ _ (by rw [World.cell?_setCell_other _ _ _ _ (by simp)]; exact hD1), (CF.set CG (by simp [Value.ownBlock]; omega)).set CG (by simp [Value.ownBlock]; omega), (((unhide hbw).setCell yD _).setCell yD _)⟩
                  · go_simp
                    obtain ⟨v6, hv6⟩ : ∃ x, x = v2.alloc (.cells #[] 3) := ⟨_, rfl⟩
                    have b6 : Below v2.heap.size v2 v6 := by rw [hv6]; exact (Below.refl _ _).alloc (Nat.le_refl _) _
                    have e6 : v2.heap.size < v6.heap.size := by rw [hv6]; simp
                    have f6 : wr.heap.size ≤ v2.heap.size := (unhide hbw).size
                    have hX : Hid (v6.heap[X]? = some (.cells #[] 32 (0, 0))) := (b6.block _ (by omega)).trans (unhide hX)
                    have hD0 := cell_later b6 hD0
                    have hD1 := cell_later b6 hD1
                    have hDf0 := (b6.frozen (p := ⟨D, 0, none⟩) zD).trans hDf0
                    have hDf1 := (b6.frozen (p := ⟨D, 1, none⟩) zD).trans hDf1
                    have zX : X < v6.heap.size := Nat.lt_of_lt_of_le zX b6.size
                    have zD : D < v6.heap.size := Nat.lt_of_lt_of_le zD b6.size
                    have hbw := hide ((unhide hbw).trans (b6.mono (unhide hbw).size))
                    have p0 := cell_later b6 p0
                    have p1 := cell_later b6 p1
                    have nXE : X ≠ v2.heap.size := by omega
                    have nDE : D ≠ v2.heap.size := by omega
                    rw [← hv6]
                    obtain ⟨E, hEe⟩ : ∃ z, z = v2.heap.size := ⟨_, rfl⟩
                    rw [← hEe] at  nXE nDE ⊢
                    have zE : E < v6.heap.size := by omega
                    have yE : wr.heap.size ≤ E := by omega
                    clear hv6 b6 e6 f6 hEe
                    refine hK.out _ _ ?_ (fun hHeld => ?_)
                    · exact ⟨p0, p1⟩
                    clear hK K
                    try simp only [List.getElem_toArray, List.getElem_cons_succ, List.getElem_cons_zero, Act.put, List.setIfInBounds_toArray, List.set_cons_zero, List.set_cons_succ]
                    refine wpAnyH_ready (rs := [5, 7]) (by kernel_rfl) (by simp) ?_
                    refine AllReadyH.cons rfl (fun K hK => ?_) (AllReadyH.cons rfl (fun K hK => ?_) AllReadyH.nil)
                    · apply step_clz_copy (R := 0) (Ls := Ls) (base := wr.heap.size)
                      case hgd => rfl
                      case ho => rfl
                      case hty => rfl
                      case hs => rfl
                      case hX => exact unhide hX
                      case hbX => exact yX
                      case hbase => exact (unhide hbw).size
                      case hx => rfl
                      case hc => exact (unhide HC0).later (unhide hbw)
                      case hl => omega
                      case' h => intro g5 c5 v5 o5 gr5 at5 lt5
                      have mv5 : Mov X _ v5 := mov_of_grown gr5
                      have zE : E < v5.heap.size := Nat.lt_of_lt_of_le zE mv5.size
                      have hD0 := mv5.cell hD0 (by simp only; omega)
                      have hD1 := mv5.cell hD1 (by simp only; omega)
                      have hDf0 := (World.frozen?_of_block (w := v6) (a := ⟨D, 0, none⟩) (mv5.2.2.2.2 D zD (by omega))).trans hDf0
                      have hDf1 := (World.frozen?_of_block (w := v6) (a := ⟨D, 1, none⟩) (mv5.2.2.2.2 D zD (by omega))).trans hDf1
                      have zD : D < v5.heap.size := Nat.lt_of_lt_of_le zD mv5.size
                      have p0 := mv5.cell p0 (by simp only; omega)
                      have p1 := mv5.cell p1 (by simp only; omega)
                      have hbw := hide ((unhide hbw).trans (mv5.below yX (unhide hbw).size))
                      have hO := hide o5
                      have zO := lt5
                      have yg5 : wr.heap.size ≤ g5 := own_base o5
                      have ng5E : g5 ≠ E := by rcases at5 with e | e <;> omega
                      have ng5D : g5 ≠ D := by rcases at5 with e | e <;> omega
                      clear o5 gr5 at5 lt5 mv5 hX zX yX
                      refine hK.out _ _ ?_ (fun hHeld => ?_)
                      · exact ⟨p0, p1⟩
                      clear hK K
                      try simp only [List.getElem_toArray, List.getElem_cons_succ, List.getElem_cons_zero, Act.put, List.setIfInBounds_toArray, List.set_cons_zero, List.set_cons_succ]
                      refine wpAnyH_ready (rs := [7]) (by kernel_rfl) (by simp) ?_
                      refine AllReadyH.cons rfl (fun K hK => ?_) AllReadyH.nil
                      go_simp
                      obtain ⟨v7, hv7⟩ : ∃ x, x = v5.alloc (.cells #[.slice (some ⟨E, 0, none⟩) 0 0] 32) := ⟨_, rfl⟩
                      have b7 : Below v5.heap.size v5 v7 := by rw [hv7]; exact (Below.refl _ _).alloc (Nat.le_refl _) _
                      have e7 : v5.heap.size < v7.heap.size := by rw [hv7]; simp
                      have f7 : wr.heap.size ≤ v5.heap.size := (unhide hbw).size
                      have hO := hide (World.ownsRow.kept (w' := v7) (unhide hO) (grown_below b7) (by simp [Value.ownBlock]))
                      have hD0 := cell_later b7 hD0
                      have hD1 := cell_later b7 hD1
                      have hDf0 := (b7.frozen (p := ⟨D, 0, none⟩) zD).trans hDf0
                      have hDf1 := (b7.frozen (p := ⟨D, 1, none⟩) zD).trans hDf1
                      have zO : g5 < v7.heap.size := Nat.lt_of_lt_of_le zO b7.size
                      have zE : E < v7.heap.size := Nat.lt_of_lt_of_le zE b7.size
                      have zD : D < v7.heap.size := Nat.lt_of_lt_of_le zD b7.size
                      have hbw := hide ((unhide hbw).trans (b7.mono (unhide hbw).size))
                      have p0 := cell_later b7 p0
                      have p1 := cell_later b7 p1
                      have hT : v7.cell? ⟨v5.heap.size, 0, none⟩ = some (.slice (some ⟨E, 0, none⟩) 0 0) := by rw [hv7]; simp [go_sem]
                      have ng5T : g5 ≠ v5.heap.size := by omega
                      have nET : E ≠ v5.heap.size := by omega
                      have nDT : D ≠ v5.heap.size := by omega
                      rw [← hv7]
                      obtain ⟨T, hTe⟩ : ∃ z, z = v5.heap.size := ⟨_, rfl⟩
                      rw [← hTe] at hT ng5T nET nDT ⊢
                      have zT : T < v7.heap.size := by omega
                      have yT : wr.heap.size ≤ T := by omega
                      clear hv7 b7 e7 f7 hTe
                      refine hK.out _ _ ?_ (fun hHeld => ?_)
                      · exact ⟨p0, p1⟩
                      clear hK K
                      try simp only [List.getElem_toArray, List.getElem_cons_succ, List.getElem_cons_zero, Act.put, List.setIfInBounds_toArray, List.set_cons_zero, List.set_cons_succ]
                      refine wpAnyH_ready (rs := [8]) (by kernel_rfl) (by simp) ?_
                      refine AllReadyH.cons rfl (fun K hK => ?_) AllReadyH.nil
                      apply step_clz_one (Ls := Ls) (q := ⟨E, 0, []⟩) (base := wr.heap.size)
                      case hgd => rfl
                      case ho => rfl
                      case hty => rfl
                      case hs => rfl
                      case hown => exact unhide hO
                      case hbase => exact (unhide hbw).size
                      case hx => rfl
                      case hT => exact hT
                      case hl => omega
                      case' h => intro g8 c8 v8 o8 gr8 at8 lt8
                      have mv8 : Mov g5 _ v8 := mov_of_grown gr8
                      have zE : E < v8.heap.size := Nat.lt_of_lt_of_le zE mv8.size
                      have hD0 := mv8.cell hD0 (by simp only; omega)
                      have hD1 := mv8.cell hD1 (by simp only; omega)
                      have hDf0 := (World.frozen?_of_block (w := v7) (a := ⟨D, 0, none⟩) (mv8.2.2.2.2 D zD (by omega))).trans hDf0
                      have hDf1 := (World.frozen?_of_block (w := v7) (a := ⟨D, 1, none⟩) (mv8.2.2.2.2 D zD (by omega))).trans hDf1
                      have zD : D < v8.heap.size := Nat.lt_of_lt_of_le zD mv8.size
                      have p0 := mv8.cell p0 (by simp only; omega)
                      have p1 := mv8.cell p1 (by simp only; omega)
                      have hbw := hide ((unhide hbw).trans (mv8.below yg5 (unhide hbw).size))
                      have hF := hide o8
                      have zF := lt8
                      have ng8D : g8 ≠ D := by rcases at8 with e | e <;> omega
                      clear o8 gr8 at8 lt8 mv8 hO zO hT zT
                      refine hK.out _ _ ?_ (fun hHeld => ?_)
                      · exact ⟨p0, p1⟩
                      clear hK K
                      try simp only [List.getElem_toArray, List.getElem_cons_succ, List.getElem_cons_zero, Act.put, List.setIfInBounds_toArray, List.set_cons_zero, List.set_cons_succ]
                      refine wpAnyH_take (i := 9) (v := ?_) rfl (by kernel_rfl) (by kernel_rfl) (by kernel_rfl) (fun _ _ _ h => h) (Or.inl ⟨by rfl, ?_⟩) (by assumption) ?_
                      rotate_left
                      · (intro w hSw; (try dsimp only at hSw); first | (go_simp; done) | (go_simp; with_reducible rfl))
                      try simp only [List.getElem_toArray, List.getElem_cons_succ, List.getElem_cons_zero, Act.put, List.setIfInBounds_toArray, List.set_cons_zero, List.set_cons_succ]
                      refine wpAnyH_ready (rs := [11]) (by kernel_rfl) (by simp) ?_
                      refine AllReadyH.cons rfl (fun K hK => ?_) AllReadyH.nil
                      go_simp
                      refine hK.out _ _ ?_ (fun hHeld => ?_)
                      · exact ⟨by rw [World.cell?_setCell_other _ _ _ _ (by simp <;> omega), World.cell?_setCell_other _ _ _ _ (by simp <;> omega)]; exact p0, by rw [World.cell?_setCell_other _ _ _ _ (by simp <;> omega), World.cell?_setCell_other _ _ _ _ (by simp <;> omega)]; exact p1⟩
                      clear hK K
                      try simp only [List.getElem_toArray, List.getElem_cons_succ, List.getElem_cons_zero, Act.put, List.setIfInBounds_toArray, List.set_cons_zero, List.set_cons_succ]
                      refine wpAnyH_done (by kernel_rfl) ?_ _
                      have CF : ClzAt v8 0 (.slice (some ⟨g8, 0, none⟩) (Ls.length + 1) c8) (Ls ++ [⟨E, 0, []⟩]) := own_clz (unhide hF) (by have := own_base (unhide hF); omega) (fun q hq => by
                        rcases List.mem_append.1 hq with h | h
                        · exact ((unhide HC0).1 q h).later (unhide hbw)
                        · simp at h; subst h; exact ⟨by simp only; omega, zE, fun i hi => by simp at hi, by simp, fun x hx => by cases hx⟩)
                      have CG : ∀ q, q ∈ Ls ++ [⟨E, 0, []⟩] → q.g ≠ D := fun q hq => by
                        rcases List.mem_append.1 hq with h | h
                        · have := ((unhide HC0).1 q h).2.1; omega
                        · simp at h; subst h; simp only; omega
                      go_wp2_with fail
                      go_meet
                      exact ⟨D, g8, c8, E, rfl, by rw [World.cell?_setCell_other _ _ _ _ (by simp)]; exact World.cell?_setCell_same _ _ _ hD0, World.cell?_setCell_same _ _ _ (by rw [World.cell?_setCell_other _ _ _ _ (by simp)]; exact hD1), (CF.set CG (by simp [Value.ownBlock]; omega)).set CG (by simp [Value.ownBlock]; omega), (((unhide hbw).setCell yD _).setCell yD _)⟩
                    · go_simp
                      obtain ⟨v7, hv7⟩ : ∃ x, x = v6.alloc (.cells #[.slice (some ⟨E, 0, none⟩) 0 0] 32) := ⟨_, rfl⟩
                      have b7 : Below v6.heap.size v6 v7 := by rw [hv7]; exact (Below.refl _ _).alloc (Nat.le_refl _) _
                      have e7 : v6.heap.size < v7.heap.size := by rw [hv7]; simp
                      have f7 : wr.heap.size ≤ v6.heap.size := (unhide hbw).size
                      have hX : Hid (v7.heap[X]? = some (.cells #[] 32 (0, 0))) := (b7.block _ (by omega)).trans (unhide hX)
                      have hD0 := cell_later b7 hD0
                      have hD1 := cell_later b7 hD1
                      have hDf0 := (b7.frozen (p := ⟨D, 0, none⟩) zD).trans hDf0
                      have hDf1 := (b7.frozen (p := ⟨D, 1, none⟩) zD).trans hDf1
                      have zX : X < v7.heap.size := Nat.lt_of_lt_of_le zX b7.size
                      have zE : E < v7.heap.size := Nat.lt_of_lt_of_le zE b7.size
                      have zD : D < v7.heap.size := Nat.lt_of_lt_of_le zD b7.size
                      have hbw := hide ((unhide hbw).trans (b7.mono (unhide hbw).size))
                      have p0 := cell_later b7 p0
                      have p1 := cell_later b7 p1
                      have hT : v7.cell? ⟨v6.heap.size, 0, none⟩ = some (.slice (some ⟨E, 0, none⟩) 0 0) := by rw [hv7]; simp [go_sem]
                      have nXT : X ≠ v6.heap.size := by omega
                      have nET : E ≠ v6.heap.size := by omega
                      have nDT : D ≠ v6.heap.size := by omega
                      rw [← hv7]
                      obtain ⟨T, hTe⟩ : ∃ z, z = v6.heap.size := ⟨_, rfl⟩
                      rw [← hTe] at hT nXT nET nDT ⊢
                      have zT : T < v7.heap.size := by omega
                      have yT : wr.heap.size ≤ T := by omega
                      clear hv7 b7 e7 f7 hTe
                      refine hK.out _ _ ?_ (fun hHeld => ?_)
                      · exact ⟨p0, p1⟩
                      clear hK K
                      try simp only [List.getElem_toArray, List.getElem_cons_succ, List.getElem_cons_zero, Act.put, List.setIfInBounds_toArray, List.set_cons_zero, List.set_cons_succ]
                      refine wpAnyH_ready (rs := [5]) (by kernel_rfl) (by simp) ?_
                      refine AllReadyH.cons rfl (fun K hK => ?_) AllReadyH.nil
                      apply step_clz_copy (R := 0) (Ls := Ls) (base := wr.heap.size)
                      case hgd => rfl
                      case ho => rfl
                      case hty => rfl
                      case hs => rfl
                      case hX => exact unhide hX
                      case hbX => exact yX
                      case hbase => exact (unhide hbw).size
                      case hx => rfl
                      case hc => exact (unhide HC0).later (unhide hbw)
                      case hl => omega
                      case' h => intro g5 c5 v5 o5 gr5 at5 lt5
                      have mv5 : Mov X _ v5 := mov_of_grown gr5
                      have hT := mv5.cell hT (by simp only; omega)
                      have zT : T < v5.heap.size := Nat.lt_of_lt_of_le zT mv5.size
                      have zE : E < v5.heap.size := Nat.lt_of_lt_of_le zE mv5.size
                      have hD0 := mv5.cell hD0 (by simp only; omega)
                      have hD1 := mv5.cell hD1 (by simp only; omega)
                      have hDf0 := (World.frozen?_of_block (w := v7) (a := ⟨D, 0, none⟩) (mv5.2.2.2.2 D zD (by omega))).trans hDf0
                      have hDf1 := (World.frozen?_of_block (w := v7) (a := ⟨D, 1, none⟩) (mv5.2.2.2.2 D zD (by omega))).trans hDf1
                      have zD : D < v5.heap.size := Nat.lt_of_lt_of_le zD mv5.size
                      have p0 := mv5.cell p0 (by simp only; omega)
                      have p1 := mv5.cell p1 (by simp only; omega)
                      have hbw := hide ((unhide hbw).trans (mv5.below yX (unhide hbw).size))
                      have hO := hide o5
                      have zO := lt5
                      have yg5 : wr.heap.size ≤ g5 := own_base o5
                      have ng5T : g5 ≠ T := by rcases at5 with e | e <;> omega
                      have ng5E : g5 ≠ E := by rcases at5 with e | e <;> omega
                      have ng5D : g5 ≠ D := by rcases at5 with e | e <;> omega
                      clear o5 gr5 at5 lt5 mv5 hX zX yX
                      refine hK.out _ _ ?_ (fun hHeld => ?_)
                      · exact ⟨p0, p1⟩
                      clear hK K
                      try simp only [List.getElem_toArray, List.getElem_cons_succ, List.getElem_cons_zero, Act.put, List.setIfInBounds_toArray, List.set_cons_zero, List.set_cons_succ]
                      refine wpAnyH_ready (rs := [8]) (by kernel_rfl) (by simp) ?_
                      refine AllReadyH.cons rfl (fun K hK => ?_) AllReadyH.nil
                      apply step_clz_one (Ls := Ls) (q := ⟨E, 0, []⟩) (base := wr.heap.size)
                      case hgd => rfl
                      case ho => rfl
                      case hty => rfl
                      case hs => rfl
                      case hown => exact unhide hO
                      case hbase => exact (unhide hbw).size
                      case hx => rfl
                      case hT => exact hT
                      case hl => omega
                      case' h => intro g8 c8 v8 o8 gr8 at8 lt8
                      have mv8 : Mov g5 _ v8 := mov_of_grown gr8
                      have zE : E < v8.heap.size := Nat.lt_of_lt_of_le zE mv8.size
                      have hD0 := mv8.cell hD0 (by simp only; omega)
                      have hD1 := mv8.cell hD1 (by simp only; omega)
                      have hDf0 := (World.frozen?_of_block (w := v5) (a := ⟨D, 0, none⟩) (mv8.2.2.2.2 D zD (by omega))).trans hDf0
                      have hDf1 := (World.frozen?_of_block (w := v5) (a := ⟨D, 1, none⟩) (mv8.2.2.2.2 D zD (by omega))).trans hDf1
                      have zD : D < v8.heap.size := Nat.lt_of_lt_of_le zD mv8.size
                      have p0 := mv8.cell p0 (by simp only; omega)
                      have p1 := mv8.cell p1 (by simp only; omega)
                      have hbw := hide ((unhide hbw).trans (mv8.below yg5 (unhide hbw).size))
                      have hF := hide o8
                      have zF := lt8
                      have ng8D : g8 ≠ D := by rcases at8 with e | e <;> omega
                      clear o8 gr8 at8 lt8 mv8 hO zO hT zT
                      refine hK.out _ _ ?_ (fun hHeld => ?_)
                      · exact ⟨p0, p1⟩
                      clear hK K
                      try simp only [List.getElem_toArray, List.getElem_cons_succ, List.getElem_cons_zero, Act.put, List.setIfInBounds_toArray, List.set_cons_zero, List.set_cons_succ]
                      refine wpAnyH_take (i := 9) (v := ?_) rfl (by kernel_rfl) (by kernel_rfl) (by kernel_rfl) (fun _ _ _ h => h) (Or.inl ⟨by rfl, ?_⟩) (by assumption) ?_
                      rotate_left
                      · (intro w hSw; (try dsimp only at hSw); first | (go_simp; done) | (go_simp; with_reducible rfl))
                      try simp only [List.getElem_toArray, List.getElem_cons_succ, List.getElem_cons_zero, Act.put, List.setIfInBounds_toArray, List.set_cons_zero, List.set_cons_succ]
                      refine wpAnyH_ready (rs := [11]) (by kernel_rfl) (by simp) ?_
                      refine AllReadyH.cons rfl (fun K hK => ?_) AllReadyH.nil
                      go_simp
                      refine hK.out _ _ ?_ (fun hHeld => ?_)
                      · exact ⟨by rw [World.cell?_setCell_other _ _ _ _ (by simp <;> omega), World.cell?_setCell_other _ _ _ _ (by simp <;> omega)]; exact p0, by rw [World.cell?_setCell_other _ _ _ _ (by simp <;> omega), World.cell?_setCell_other _ _ _ _ (by simp <;> omega)]; exact p1⟩
                      clear hK K
                      try simp only [List.getElem_toArray, List.getElem_cons_succ, List.getElem_cons_zero, Act.put, List.setIfInBounds_toArray, List.set_cons_zero, List.set_cons_succ]
                      refine wpAnyH_done (by kernel_rfl) ?_ _
                      have CF : ClzAt v8 0 (.slice (some ⟨g8, 0, none⟩) (Ls.length + 1) c8) (Ls ++ [⟨E, 0, []⟩]) := own_clz (unhide hF) (by have := own_base (unhide hF); omega) (fun q hq => by
                        rcases List.mem_append.1 hq with h | h
                        · exact ((unhide HC0).1 q h).later (unhide hbw)
                        · simp at h; subst h; exact ⟨by simp only; omega, zE, fun i hi => by simp at hi, by simp, fun x hx => by cases hx⟩)
                      have CG : ∀ q, q ∈ Ls ++ [⟨E, 0, []⟩] → q.g ≠ D := fun q hq => by
                        rcases List.mem_append.1 hq with h | h
                        · have := ((unhide HC0).1 q h).2.1; omega
                        · simp at h; subst h; simp only; omega
                      go_wp2_with fail
                      go_meet
                      exact ⟨D, g8, c8, E, rfl, by rw [World.cell?_setCell_other _ _ _ _ (by simp)]; exact World.cell?_setCell_same _ _ _ hD0, World.cell?_setCell_same _ _ _ (by rw [World.cell?_setCell_other _ _ _ _ (by simp)]; exact hD1), (CF.set CG (by simp [Value.ownBlock]; omega)).set CG (by simp [Value.ownBlock]; omega), (((unhide hbw).setCell yD _).setCell yD _)⟩
                · go_simp
                  obtain ⟨v6, hv6⟩ : ∃ x, x = v10.alloc (.cells #[] 3) := ⟨_, rfl⟩
                  have b6 : Below v10.heap.size v10 v6 := by rw [hv6]; exact (Below.refl _ _).alloc (Nat.le_refl _) _
                  have e6 : v10.heap.size < v6.heap.size := by rw [hv6]; simp
                  have f6 : wr.heap.size ≤ v10.heap.size := (unhide hbw).size
                  have hD0 := cell_later b6 hD0
                  have hD1 := cell_later b6 hD1
                  have hDf0 := (b6.frozen (p := ⟨D, 0, none⟩) zD).trans hDf0
                  have hDf1 := (b6.frozen (p := ⟨D, 1, none⟩) zD).trans hDf1
                  have zD : D < v6.heap.size := Nat.lt_of_lt_of_le zD b6.size
                  have hbw := hide ((unhide hbw).trans (b6.mono (unhide hbw).size))
                  have p0 := cell_later b6 p0
                  have p1 := cell_later b6 p1
                  have nDE : D ≠ v10.heap.size := by omega
                  rw [← hv6]
                  obtain ⟨E, hEe⟩ : ∃ z, z = v10.heap.size := ⟨_, rfl⟩
                  rw [← hEe] at  nDE ⊢
                  have zE : E < v6.heap.size := by omega
                  have yE : wr.heap.size ≤ E := by omega
                  clear hv6 b6 e6 f6 hEe
                  refine hK.out _ _ ?_ (fun hHeld => ?_)
                  · exact ⟨p0, p1⟩
                  clear hK K
                  try simp only [List.getElem_toArray, List.getElem_cons_succ, List.getElem_cons_zero, Act.put, List.setIfInBounds_toArray, List.set_cons_zero, List.set_cons_succ]
                  refine wpAnyH_ready (rs := [2, 7]) (by kernel_rfl) (by simp) ?_
                  refine AllReadyH.cons rfl (fun K hK => ?_) (AllReadyH.cons rfl (fun K hK => ?_) AllReadyH.nil)
                  · go_simp
                    obtain ⟨v2, hv2⟩ : ∃ x, x = v6.alloc (.cells #[] 32) := ⟨_, rfl⟩
                    have b2 : Below v6.heap.size v6 v2 := by rw [hv2]; exact (Below.refl _ _).alloc (Nat.le_refl _) _
                    have e2 : v6.heap.size < v2.heap.size := by rw [hv2]; simp
                    have f2 : wr.heap.size ≤ v6.heap.size := (unhide hbw).size
                    have hD0 := cell_later b2 hD0
                    have hD1 := cell_later b2 hD1
                    have hDf0 := (b2.frozen (p := ⟨D, 0, none⟩) zD).trans hDf0
                    have hDf1 := (b2.frozen (p := ⟨D, 1, none⟩) zD).trans hDf1
                    have zE : E < v2.heap.size := Nat.lt_of_lt_of_le zE b2.size
                    have zD : D < v2.heap.size := Nat.lt_of_lt_of_le zD b2.size
                    have hbw := hide ((unhide hbw).trans (b2.mono (unhide hbw).size))
                    have p0 := cell_later b2 p0
                    have p1 := cell_later b2 p1
                    have hX : Hid (v2.heap[v6.heap.size]? = some (.cells #[] 32 (0, 0))) := by show _ = _; rw [hv2]; exact alloc_at rfl
                    have nEX : E ≠ v6.heap.size := by omega
                    have nDX : D ≠ v6.heap.size := by omega
                    rw [← hv2]
                    obtain ⟨X, hXe⟩ : ∃ z, z = v6.heap.size := ⟨_, rfl⟩
                    rw [← hXe] at hX nEX nDX ⊢
                    have zX : X < v2.heap.size := by omega
                    have yX : wr.heap.size ≤ X := by omega
                    clear hv2 b2 e2 f2 hXe
                    refine hK.out _ _ ?_ (fun hHeld => ?_)
                    · exact ⟨p0, p1⟩
                    clear hK K
                    try simp only [List.getElem_toArray, List.getElem_cons_succ, List.getElem_cons_zero, Act.put, List.setIfInBounds_toArray, List.set_cons_zero, List.set_cons_succ]
                    refine wpAnyH_ready (rs := [5, 7]) (by kernel_rfl) (by simp) ?_
                    refine AllReadyH.cons rfl (fun K hK => ?_) (AllReadyH.cons rfl (fun K hK => ?_) AllReadyH.nil)
                    · apply step_clz_copy (R := 0) (Ls := Ls) (base := wr.heap.size)
                      case hgd => rfl
                      case ho => rfl
                      case hty => rfl
                      case hs => rfl
                      case hX => exact unhide hX
                      case hbX => exact yX
                      case hbase => exact (unhide hbw).size
                      case hx => rfl
                      case hc => exact (unhide HC0).later (unhide hbw)
                      case hl => omega
                      case' h => intro g5 c5 v5 o5 gr5 at5 lt5
                      have mv5 : Mov X _ v5 := mov_of_grown gr5
                      have zE : E < v5.heap.size := Nat.lt_of_lt_of_le zE mv5.size
                      have hD0 := mv5.cell hD0 (by simp only; omega)
                      have hD1 := mv5.cell hD1 (by simp only; omega)
                      have hDf0 := (World.frozen?_of_block (w := v2) (a := ⟨D, 0, none⟩) (mv5.2.2.2.2 D zD (by omega))).trans hDf0
                      have hDf1 := (World.frozen?_of_block (w := v2) (a := ⟨D, 1, none⟩) (mv5.2.2.2.2 D zD (by omega))).trans hDf1
                      have zD : D < v5.heap.size := Nat.lt_of_lt_of_le zD mv5.size
                      have p0 := mv5.cell p0 (by simp only; omega)
                      have p1 := mv5.cell p1 (by simp only; omega)
                      have hbw := hide ((unhide hbw).trans (mv5.below yX (unhide hbw).size))
                      have hO := hide o5
                      have zO := lt5
                      have yg5 : wr.heap.size ≤ g5 := own_base o5
                      have ng5E : g5 ≠ E := by rcases at5 with e | e <;> omega
                      have ng5D : g5 ≠ D := by rcases at5 with e | e <;> omega
                      clear o5 gr5 at5 lt5 mv5 hX zX yX
                      refine hK.out _ _ ?_ (fun hHeld => ?_)
                      · exact ⟨p0, p1⟩
                      clear hK K
                      try simp only [List.getElem_toArray, List.getElem_cons_succ, List.getElem_cons_zero, Act.put, List.setIfInBounds_toArray, List.set_cons_zero, List.set_cons_succ]
                      refine wpAnyH_ready (rs := [7]) (by kernel_rfl) (by simp) ?_
                      refine AllReadyH.cons rfl (fun K hK => ?_) AllReadyH.nil
                      go_simp
                      obtain ⟨v7, hv7⟩ : ∃ x, x = v5.alloc (.cells #[.slice (some ⟨E, 0, none⟩) 0 0] 32) := ⟨_, rfl⟩
                      have b7 : Below v5.heap.size v5 v7 := by rw [hv7]; exact (Below.refl _ _).alloc (Nat.le_refl _) _
                      have e7 : v5.heap.size < v7.heap.size := by rw [hv7]; simp
                      have f7 : wr.heap.size ≤ v5.heap.size := (unhide hbw).size
                      have hO := hide (World.ownsRow.kept (w' := v7) (unhide hO) (grown_below b7) (by simp [Value.ownBlock]))
                      have hD0 := cell_later b7 hD0
                      have hD1 := cell_later b7 hD1
                      have hDf0 := (b7.frozen (p := ⟨D, 0, none⟩) zD).trans hDf0
                      have hDf1 := (b7.frozen (p := ⟨D, 1, none⟩) zD).trans hDf1
                      have zO : g5 < v7.heap.size := Nat.lt_of_lt_of_le zO b7.size
                      have zE : E < v7.heap.size := Nat.lt_of_lt_of_le zE b7.size
                      have zD : D < v7.heap.size := Nat.lt_of_lt_of_le zD b7.size
                      have hbw := hide ((unhide hbw).trans (b7.mono (unhide hbw).size))
                      have p0 := cell_later b7 p0
                      have p1 := cell_later b7 p1
                      have hT : v7.cell? ⟨v5.heap.size, 0, none⟩ = some (.slice (some ⟨E, 0, none⟩) 0 0) := by rw [hv7]; simp [go_sem]
                      have ng5T : g5 ≠ v5.heap.size := by omega
                      have nET : E ≠ v5.heap.size := by omega
                      have nDT : D ≠ v5.heap.size := by omega
                      rw [← hv7]
                      obtain ⟨T, hTe⟩ : ∃ z, z = v5.heap.size := ⟨_, rfl⟩
                      rw [← hTe] at hT ng5T nET nDT ⊢
                      have zT : T < v7.heap.size := by omega
                      have yT : wr.heap.size ≤ T := by omega
                      clear hv7 b7 e7 f7 hTe
                      refine hK.out _ _ ?_ (fun hHeld => ?_)
                      · exact ⟨p0, p1⟩
                      clear hK K
                      try simp only [List.getElem_toArray, List.getElem_cons_succ, List.getElem_cons_zero, Act.put, List.setIfInBounds_toArray, List.set_cons_zero, List.set_cons_succ]
                      refine wpAnyH_ready (rs := [8]) (by kernel_rfl) (by simp) ?_
                      refine AllReadyH.cons rfl (fun K hK => ?_) AllReadyH.nil
                      apply step_clz_one (Ls := Ls) (q := ⟨E, 0, []⟩) (base := wr.heap.size)
                      case hgd => rfl
                      case ho => rfl
                      case hty => rfl
                      case hs => rfl
                      case hown => exact unhide hO
                      case hbase => exact (unhide hbw).size
                      case hx => rfl
                      case hT => exact hT
                      case hl => omega
                      case' h => intro g8 c8 v8 o8 gr8 at8 lt8
                      have mv8 : Mov g5 _ v8 := mov_of_grown gr8
                      have zE : E < v8.heap.size := Nat.lt_of_lt_of_le zE mv8.size
                      have hD0 := mv8.cell hD0 (by simp only; omega)
                      have hD1 := mv8.cell hD1 (by simp only; omega)
                      have hDf0 := (World.frozen?_of_block (w := v7) (a := ⟨D, 0, none⟩) (mv8.2.2.2.2 D zD (by omega))).trans hDf0
                      have hDf1 := (World.frozen?_of_block (w := v7) (a := ⟨D, 1, none⟩) (mv8.2.2.2.2 D zD (by omega))).trans hDf1
                      have zD : D < v8.heap.size := Nat.lt_of_lt_of_le zD mv8.size
                      have p0 := mv8.cell p0 (by simp only; omega)
                      have p1 := mv8.cell p1 (by simp only; omega)
                      have hbw := hide ((unhide hbw).trans (mv8.below yg5 (unhide hbw).size))
                      have hF := hide o8
                      have zF := lt8
                      have ng8D : g8 ≠ D := by rcases at8 with e | e <;> omega
                      clear o8 gr8 at8 lt8 mv8 hO zO hT zT
                      refine hK.out _ _ ?_ (fun hHeld => ?_)
                      · exact ⟨p0, p1⟩
                      clear hK K
                      try simp only [List.getElem_toArray, List.getElem_cons_succ, List.getElem_cons_zero, Act.put, List.setIfInBounds_toArray, List.set_cons_zero, List.set_cons_succ]
                      refine wpAnyH_take (i := 9) (v := ?_) rfl (by kernel_rfl) (by kernel_rfl) (by kernel_rfl) (fun _ _ _ h => h) (Or.inl ⟨by rfl, ?_⟩) (by assumption) ?_
                      rotate_left
                      · (intro w hSw; (try dsimp only at hSw); first | (go_simp; done) | (go_simp; with_reducible rfl))
                      try simp only [List.getElem_toArray, List.getElem_cons_succ, List.getElem_cons_zero, Act.put, List.setIfInBounds_toArray, List.set_cons_zero, List.set_cons_succ]
                      refine wpAnyH_ready (rs := [11]) (by kernel_rfl) (by simp) ?_
                      refine AllReadyH.cons rfl (fun K hK => ?_) AllReadyH.nil
                      go_simp
                      refine hK.out _ _ ?_ (fun hHeld => ?_)
                      · exact ⟨by rw [World.cell?_setCell_other _ _ _ _ (by simp <;> omega), World.cell?_setCell_other _ _ _ _ (by simp <;> omega)]; exact p0, by rw [World.cell?_setCell_other _ _ _ _ (by simp <;> omega), World.cell?_setCell_other _ _ _ _ (by simp <;> omega)]; exact p1⟩
                      clear hK K
                      try simp only [List.getElem_toArray, List.getElem_cons_succ, List.getElem_cons_zero, Act.put, List.setIfInBounds_toArray, List.set_cons_zero, List.set_cons_succ]
                      refine wpAnyH_done (by kernel_rfl) ?_ _
                      have CF : ClzAt v8 0 (.slice (some ⟨g8, 0, none⟩) (Ls.length + 1) c8) (Ls ++ [⟨E, 0, []⟩]) := own_clz (unhide hF) (by have := own_base (unhide hF); omega) (fun q hq => by
                        rcases List.mem_append.1 hq with h | h
                        · exact ((unhide HC0).1 q h).later (unhide hbw)
                        · simp at h; subst h; exact ⟨by simp only; omega, zE, fun i hi => by simp at hi, by simp, fun x hx => by cases hx⟩)
                      have CG : ∀ q, q ∈ Ls ++ [⟨E, 0, []⟩] → q.g ≠ D := fun q hq => by
                        rcases List.mem_append.1 hq with h | h
                        · have := ((unhide HC0).1 q h).2.1; omega
                        · simp at h; subst h; simp only; omega
                      go_wp2_with fail
                      go_meet
                      exact ⟨D, g8, c8, E, rfl, by rw [World.cell?_setCell_other _ _ _ _ (by simp)]; exact World.cell?_setCell_same _ _ _ hD0, World.cell?_setCell_same _ _ _ (by rw [World.cell?_setCell_other _ _ _ _ (by simp)]; exact hD1), (CF.set CG (by simp [Value.ownBlock]; omega)).set CG (by simp [Value.ownBlock]; omega), (((unhide hbw).setCell yD _).setCell yD _)⟩
                    · go_simp
                      obtain ⟨v7, hv7⟩ : ∃ x, x = v2.alloc (.cells #[.slice (some ⟨E, 0, none⟩) 0 0] 32) := ⟨_, rfl⟩
                      have b7 : Below v2.heap.size v2 v7 := by rw [hv7]; exact (Below.refl _ _).alloc (Nat.le_refl _) _
                      have e7 : v2.heap.size < v7.heap.size := by rw [hv7]; simp
                      have f7 : wr.heap.size ≤ v2.heap.size := (unhide hbw).size
                      have hX : Hid (v7.heap[X]? = some (.cells #[] 32 (0, 0))) := (b7.block _ (by omega)).trans (unhide hX)
                      have hD0 := cell_later b7 hD0
                      have hD1 := cell_later b7 hD1
                      have hDf0 := (b7.frozen (p := ⟨D, 0, none⟩) zD).trans hDf0
                      have hDf1 := (b7.frozen (p := ⟨D, 1, none⟩) zD).trans hDf1
                      have zX : X < v7.heap.size := Nat.lt_of_lt_of_le zX b7.size
                      have zE : E < v7.heap.size := Nat.lt_of_lt_of_le zE b7.size
                      have zD : D < v7.heap.size := Nat.lt_of_lt_of_le zD b7.size
                      have hbw := hide ((unhide hbw).trans (b7.mono (unhide hbw).size))
                      have p0 := cell_later b7 p0
                      have p1 := cell_later b7 p1
                      have hT : v7.cell? ⟨v2.heap.size, 0, none⟩ = some (.slice (some ⟨E, 0, none⟩) 0 0) := by rw [hv7]; simp [go_sem]
                      have nXT : X ≠ v2.heap.size := by omega
                      have nET : E ≠ v2.heap.size := by omega
                      have nDT : D ≠ v2.heap.size := by omega
                      rw [← hv7]
                      obtain ⟨T, hTe⟩ : ∃ z, z = v2.heap.size := ⟨_, rfl⟩
                      rw [← hTe] at hT nXT nET nDT ⊢
                      have zT : T < v7.heap.size := by omega
                      have yT : wr.heap.size ≤ T := by omega
                      clear hv7 b7 e7 f7 hTe
                      refine hK.out _ _ ?_ (fun hHeld => ?_)
                      · exact ⟨p0, p1⟩
                      clear hK K
                      try simp only [List.getElem_toArray, List.getElem_cons_succ, List.getElem_cons_zero, Act.put, List.setIfInBounds_toArray, List.set_cons_zero, List.set_cons_succ]
                      refine wpAnyH_ready (rs := [5]) (by kernel_rfl) (by simp) ?_
                      refine AllReadyH.cons rfl (fun K hK => ?_) AllReadyH.nil
                      apply step_clz_copy (R := 0) (Ls := Ls) (base := wr.heap.size)
                      case hgd => rfl
                      case ho => rfl
                      case hty => rfl
                      case hs => rfl
                      case hX => exact unhide hX
                      case hbX => exact yX
                      case hbase => exact (unhide hbw).size
                      case hx => rfl
                      case hc => exact (unhide HC0).later (unhide hbw)
                      case hl => omega
                      case' h => intro g5 c5 v5 o5 gr5 at5 lt5
                      have mv5 : Mov X _ v5 := mov_of_grown gr5
                      have hT := mv5.cell hT (by simp only; omega)
                      have zT : T < v5.heap.size := Nat.lt_of_lt_of_le zT mv5.size
                      have zE : E < v5.heap.size := Nat.lt_of_lt_of_le zE mv5.size
                      have hD0 := mv5.cell hD0 (by simp only; omega)
                      have hD1 := mv5.cell hD1 (by simp only; omega)
                      have hDf0 := (World.frozen?_of_block (w := v7) (a := ⟨D, 0, none⟩) (mv5.2.2.2.2 D zD (by omega))).trans hDf0
                      have hDf1 := (World.frozen?_of_block (w := v7) (a := ⟨D, 1, none⟩) (mv5.2.2.2.2 D zD (by omega))).trans hDf1
                      have zD : D < v5.heap.size := Nat.lt_of_lt_of_le zD mv5.size
                      have p0 := mv5.cell p0 (by simp only; omega)
                      have p1 := mv5.cell p1 (by simp only; omega)
                      have hbw := hide ((unhide hbw).trans (mv5.below yX (unhide hbw).size))
                      have hO := hide o5
                      have zO := lt5
                      have yg5 : wr.heap.size ≤ g5 := own_base o5
                      have ng5T : g5 ≠ T := by rcases at5 with e | e <;> omega
                      have ng5E : g5 ≠ E := by rcases at5 with e | e <;> omega
                      have ng5D : g5 ≠ D := by rcases at5 with e | e <;> omega
                      clear o5 gr5 at5 lt5 mv5 hX zX yX
                      refine hK.out _ _ ?_ (fun hHeld => ?_)
                      · exact ⟨p0, p1⟩
                      clear hK K
                      try simp only [List.getElem_toArray, List.getElem_cons_succ, List.getElem_cons_zero, Act.put, List.setIfInBounds_toArray, List.set_cons_zero, List.set_cons_succ]
                      refine wpAnyH_ready (rs := [8]) (by kernel_rfl) (by simp) ?_
                      refine AllReadyH.cons rfl (fun K hK => ?_) AllReadyH.nil
                      apply step_clz_one (Ls := Ls) (q := ⟨E, 0, []⟩) (base := wr.heap.size)
                      case hgd => rfl
                      case ho => rfl
                      case hty => rfl
                      case hs => rfl
                      case hown => exact unhide hO
                      case hbase => exact (unhide hbw).size
                      case hx => rfl
                      case hT => exact hT
                      case hl => omega
                      case' h => intro g8 c8 v8 o8 gr8 at8 lt8
                      have mv8 : Mov g5 _ v8 := mov_of_grown gr8
                      have zE : E < v8.heap.size := Nat.lt_of_lt_of_le zE mv8.size
                      have hD0 := mv8.cell hD0 (by simp only; omega)
                      have hD1 := mv8.cell hD1 (by simp only; omega)
                      have hDf0 := (World.frozen?_of_block (w := v5) (a := ⟨D, 0, none⟩) (mv8.2.2.2.2 D zD (by omega))).trans hDf0
                      have hDf1 := (World.frozen?_of_block (w := v5) (a := ⟨D, 1, none⟩) (mv8.2.2.2.2 D zD (by omega))).trans hDf1
                      have zD : D < v8.heap.size := Nat.lt_of_lt_of_le zD mv8.size
                      have p0 := mv8.cell p0 (by simp only; omega)
                      have p1 := mv8.cell p1 (by simp only; omega)
                      have hbw := hide ((unhide hbw).trans (mv8.below yg5 (unhide hbw).size))
                      have hF := hide o8
                      have zF := lt8
                      have ng8D : g8 ≠ D := by rcases at8 with e | e <;> omega
                      clear o8 gr8 at8 lt8 mv8 hO zO hT zT
                      refine hK.out _ _ ?_ (fun hHeld => ?_)
                      · exact ⟨p0, p1⟩
                      clear hK K
                      try simp only [List.getElem_toArray, List.getElem_cons_succ, List.getElem_cons_zero, Act.put, List.setIfInBounds_toArray, List.set_cons_zero, List.set_cons_succ]
                      refine wpAnyH_take (i := 9) (v := ?_) rfl (by kernel_rfl) (by kernel_rfl) (by kernel_rfl) (fun _ _ _ h => h) (Or.inl ⟨by rfl, ?_⟩) (by assumption) ?_
                      rotate_left
                      · (intro w hSw; (try dsimp only at hSw); first | (go_simp; done) | (go_simp; with_reducible rfl))
                      try simp only [List.getElem_toArray, List.getElem_cons_succ, List.getElem_cons_zero, Act.put, List.setIfInBounds_toArray, List.set_cons_zero, List.set_cons_succ]
                      refine wpAnyH_ready (rs := [11]) (by kernel_rfl) (by simp) ?_
                      refine AllReadyH.cons rfl (fun K hK => ?_) AllReadyH.nil
                      go_simp
                      refine hK.out _ _ ?_ (fun hHeld => ?_)
                      · exact ⟨by rw [World.cell?_setCell_other _ _ _ _ (by simp <;> omega), World.cell?_setCell_other _ _ _ _ (by simp <;> omega)]; exact p0, by rw [World.cell?_setCell_other _ _ _ _ (by simp <;> omega), World.cell?_setCell_other _ _ _ _ (by simp <;> omega)]; exact p1⟩
                      clear hK K
                      try simp only [List.getElem_toArray, List.getElem_cons_succ, List.getElem_cons_zero, Act.put, List.setIfInBounds_toArray, List.set_cons_zero, List.set_cons_succ]
                      refine wpAnyH_done (by kernel_rfl) ?_ _
                      have CF : ClzAt v8 0 (.slice (some ⟨g8, 0, none⟩) (Ls.length + 1) c8) (Ls ++ [⟨E, 0, []⟩]) := own_clz (unhide hF) (by have := own_base (unhide hF); omega) (fun q hq => by
                        rcases List.mem_append.1 hq with h | h
                        · exact ((unhide HC0).1 q h).later (unhide hbw)
                        · simp at h; subst h; exact ⟨by simp only; omega, zE, fun i hi => by simp at hi, by simp, fun x hx => by cases hx⟩)
                      have CG : ∀ q, q ∈ Ls ++ [⟨E, 0, []⟩] → q.g ≠ D := fun q hq => by
                        rcases List.mem_append.1 hq with h | h
                        · have := ((unhide HC0).1 q h).2.1; omega
                        · simp at h; subst h; simp only; omega
                      go_wp2_with fail
                      go_meet
                      exact ⟨D, g8, c8, E, rfl, by rw [World.cell?_setCell_other _ _ _ _ (by simp)]; exact World.cell?_setCell_same _ _ _ hD0, World.cell?_setCell_same _ _ _ (by rw [World.cell?_setCell_other _ _ _ _ (by simp)]; exact hD1), (CF.set CG (by simp [Value.ownBlock]; omega)).set CG (by simp [Value.ownBlock]; omega), (((unhide hbw).setCell yD _).setCell yD _)⟩
                  · go_simp
                    obtain ⟨v7, hv7⟩ : ∃ x, x = v6.alloc (.cells #[.slice (some ⟨E, 0, none⟩) 0 0] 32) := ⟨_, rfl⟩
                    have b7 : Below v6.heap.size v6 v7 := by rw [hv7]; exact (Below.refl _ _).alloc (Nat.le_refl _) _
                    have e7 : v6.heap.size < v7.heap.size := by rw [hv7]; simp
                    have f7 : wr.heap.size ≤ v6.heap.size := (unhide hbw).size
                    have hD0 := cell_later b7 hD0
                    have hD1 := cell_later b7 hD1
                    have hDf0 := (b7.frozen (p := ⟨D, 0, none⟩) zD).trans hDf0
                    have hDf1 := (b7.frozen (p := ⟨D, 1, none⟩) zD).trans hDf1
                    have zE : E < v7.heap.size := Nat.lt_of_lt_of_le zE b7.size
                    have zD : D < v7.heap.size := Nat.lt_of_lt_of_le zD b7.size
                    have hbw := hide ((unhide hbw).trans (b7.mono (unhide hbw).size))
                    have p0 := cell_later b7 p0
                    have p1 := cell_later b7 p1
                    have hT : v7.cell? ⟨v6.heap.size, 0, none⟩ = some (.slice (some ⟨E, 0, none⟩) 0 0) := by rw [hv7]; simp [go_sem]
                    have nET : E ≠ v6.heap.size := by omega
                    have nDT : D ≠ v6.heap.size := by omega
                    rw [← hv7]
                    obtain ⟨T, hTe⟩ : ∃ z, z = v6.heap.size := ⟨_, rfl⟩
                    rw [← hTe] at hT nET nDT ⊢
                    have zT : T < v7.heap.size := by omega
                    have yT : wr.heap.size ≤ T := by omega
                    clear hv7 b7 e7 f7 hTe
                    refine hK.out _ _ ?_ (fun hHeld => ?_)
                    · exact ⟨p0, p1⟩
                    clear hK K
                    try simp only [List.getElem_toArray, List.getElem_cons_succ, List.getElem_cons_zero, Act.put, List.setIfInBounds_toArray, List.set_cons_zero, List.set_cons_succ]
                    refine wpAnyH_ready (rs := [2]) (by kernel_rfl) (by simp) ?_
                    refine AllReadyH.cons rfl (fun K hK => ?_) AllReadyH.nil
                    go_simp
                    obtain ⟨v2, hv2⟩ : ∃ x, x = v7.alloc (.cells #[] 32) := ⟨_, rfl⟩
                    have b2 : Below v7.heap.size v7 v2 := by rw [hv2]; exact (Below.refl _ _).alloc (Nat.le_refl _) _
                    have e2 : v7.heap.size < v2.heap.size := by rw [hv2]; simp
                    have f2 : wr.heap.size ≤ v7.heap.size := (unhide hbw).size
                    have hT := cell_later b2 hT
                    have hD0 := cell_later b2 hD0
                    have hD1 := cell_later b2 hD1
                    have hDf0 := (b2.frozen (p := ⟨D, 0, none⟩) zD).trans hDf0
                    have hDf1 := (b2.frozen (p := ⟨D, 1, none⟩) zD).trans hDf1
                    have zT : T < v2.heap.size := Nat.lt_of_lt_of_le zT b2.size
                    have zE : E < v2.heap.size := Nat.lt_of_lt_of_le zE b2.size
                    have zD : D < v2.heap.size := Nat.lt_of_lt_of_le zD b2.size
                    have hbw := hide ((unhide hbw).trans (b2.mono (unhide hbw).size))
                    have p0 := cell_later b2 p0
                    have p1 := cell_later b2 p1
                    have hX : Hid (v2.heap[v7.heap.size]? = some (.cells #[] 32 (0, 0))) := by show _ = _; rw [hv2]; exact alloc_at rfl
                    have nTX : T ≠ v7.heap.size := by omega
                    have nEX : E ≠ v7.heap.size := by omega
                    have nDX : D ≠ v7.heap.size := by omega
                    rw [← hv2]
                    obtain ⟨X, hXe⟩ : ∃ z, z = v7.heap.size := ⟨_, rfl⟩
                    rw [← hXe] at hX nTX nEX nDX ⊢
                    have zX : X < v2.heap.size := by omega
                    have yX : wr.heap.size ≤ X := by omega
                    clear hv2 b2 e2 f2 hXe
                    refine hK.out _ _ ?_ (fun hHeld => ?_)
                    · exact ⟨p0, p1⟩
                    clear hK K
                    try simp only [List.getElem_toArray, List.getElem_cons_succ, List.getElem_cons_zero, Act.put, List.setIfInBounds_toArray, List.set_cons_zero, List.set_cons_succ]
                    refine wpAnyH_ready (rs := [5]) (by kernel_rfl) (by simp) ?_
                    refine AllReadyH.cons rfl (fun K hK => ?_) AllReadyH.nil
                    apply step_clz_copy (R := 0) (Ls := Ls) (base := wr.heap.size)
                    case hgd => rfl
                    case ho => rfl
                    case hty => rfl
                    case hs => rfl
                    case hX => exact unhide hX
                    case hbX => exact yX
                    case hbase => exact (unhide hbw).size
                    case hx => rfl
                    case hc => exact (unhide HC0).later (unhide hbw)
                    case hl => omega
                    case' h => intro g5 c5 v5 o5 gr5 at5 lt5
                    have mv5 : Mov X _ v5 := mov_of_grown gr5
                    have hT := mv5.cell hT (by simp only; omega)
                    have zT : T < v5.heap.size := Nat.lt_of_lt_of_le zT mv5.size
                    have zE : E < v5.heap.size := Nat.lt_of_lt_of_le zE mv5.size
                    have hD0 := mv5.cell hD0 (by simp only; omega)
                    have hD1 := mv5.cell hD1 (by simp only; omega)
                    have hDf0 := (World.frozen?_of_block (w := v2) (a := ⟨D, 0, none⟩) (mv5.2.2.2.2 D zD (by omega))).trans hDf0
                    have hDf1 := (World.frozen?_of_block (w := v2) (a := ⟨D, 1, none⟩) (mv5.2.2.2.2 D zD (by omega))).trans hDf1
                    have zD : D < v5.heap.size := Nat.lt_of_lt_of_le zD mv5.size
                    have p0 := mv5.cell p0 (by simp only; omega)
                    have p1 := mv5.cell p1 (by simp only; omega)
                    have hbw := hide ((unhide hbw).trans (mv5.below yX (unhide hbw).size))
                    have hO := hide o5
                    have zO := lt5
                    have yg5 : wr.heap.size ≤ g5 := own_base o5
                    have ng5T : g5 ≠ T := by rcases at5 with e | e <;> omega
                    have ng5E : g5 ≠ E := by rcases at5 with e | e <;> omega
                    have ng5D : g5 ≠ D := by rcases at5 with e | e <;> omega
                    clear o5 gr5 at5 lt5 mv5 hX zX yX
                    refine hK.out _ _ ?_ (fun hHeld => ?_)
                    · exact ⟨p0, p1⟩
                    clear hK K
                    try simp only [List.getElem_toArray, List.getElem_cons_succ, List.getElem_cons_zero, Act.put, List.setIfInBounds_toArray, List.set_cons_zero, List.set_cons_succ]
                    refine wpAnyH_ready (rs := [8]) (by kernel_rfl) (by simp) ?_
                    refine AllReadyH.cons rfl (fun K hK => ?_) AllReadyH.nil
                    apply step_clz_one (Ls := Ls) (q := ⟨E, 0, []⟩) (base := wr.heap.size)
                    case hgd => rfl
                    case ho => rfl
                    case hty => rfl
                    case hs => rfl
                    case hown => exact unhide hO
                    case hbase => exact (unhide hbw).size
                    case hx => rfl
                    case hT => exact hT
                    case hl => omega
                    case' h => intro g8 c8 v8 o8 gr8 at8 lt8
                    have mv8 : Mov g5 _ v8 := mov_of_grown gr8
                    have zE : E < v8.heap.size := Nat.lt_of_lt_of_le zE mv8.size
                    have hD0 := mv8.cell hD0 (by simp only; omega)
                    have hD1 := mv8.cell hD1 (by simp only; omega)
                    have hDf0 := (World.frozen?_of_block (w := v5) (a := ⟨D, 0, none⟩) (mv8.2.2.2.2 D zD (by omega))).trans hDf0
                    have hDf1 := (World.frozen?_of_block (w := v5) (a := ⟨D, 1, none⟩) (mv8.2.2.2.2 D zD (by omega))).trans hDf1
                    have zD : D < v8.heap.size := Nat.lt_of_lt_of_le zD mv8.size
                    have p0 := mv8.cell p0 (by simp only; omega)
                    have p1 := mv8.cell p1 (by simp only; omega)
                    have hbw := hide ((unhide hbw).trans (mv8.below yg5 (unhide hbw).size))
                    have hF := hide o8
                    have zF := lt8
                    have ng8D : g8 ≠ D := by rcases at8 with e | e <;> omega
                    clear o8 gr8 at8 lt8 mv8 hO zO hT zT
                    refine hK.out _ _ ?_ (fun hHeld => ?_)
                    · exact ⟨p0, p1⟩
                    clear hK K
                    try simp only [List.getElem_toArray, List.getElem_cons_succ, List.getElem_cons_zero, Act.put, List.setIfInBounds_toArray, List.set_cons_zero, List.set_cons_succ]
                    refine wpAnyH_take (i := 9) (v := ?_) rfl (by kernel_rfl) (by kernel_rfl) (by kernel_rfl) (fun _ _ _ h => h) (Or.inl ⟨by rfl, ?_⟩) (by assumption) ?_
                    rotate_left
                    · (intro w hSw; (try dsimp only at hSw); first | (go_simp; done) | (go_simp; with_reducible rfl))
                    try simp only [List.getElem_toArray, List.getElem_cons_succ, List.getElem_cons_zero, Act.put, List.setIfInBounds_toArray, List.set_cons_zero, List.set_cons_succ]
                    refine wpAnyH_ready (rs := [11]) (by kernel_rfl) (by simp) ?_
                    refine AllReadyH.cons rfl (fun K hK => ?_) AllReadyH.nil
                    go_simp
                    refine hK.out _ _ ?_ (fun hHeld => ?_)
                    · exact ⟨by rw [World.cell?_setCell_other _ _ _ _ (by simp <;> omega), World.cell?_setCell_other _ _ _ _ (by simp <;> omega)]; exact p0, by rw [World.cell?_setCell_other _ _ _ _ (by simp <;> omega), World.cell?_setCell_other _ _ _ _ (by simp <;> omega)]; exact p1⟩
                    clear hK K
                    try simp only [List.getElem_toArray, List.getElem_cons_succ, List.getElem_cons_zero, Act.put, List.setIfInBounds_toArray, List.set_cons_zero, List.set_cons_succ]
                    refine wpAnyH_done (by kernel_rfl) ?_ _
                    have CF : ClzAt v8 0 (.slice (some ⟨g8, 0, none⟩) (Ls.length + 1) c8) (Ls ++ [⟨E, 0, []⟩]) := own_clz (unhide hF) (by have := own_base (unhide hF); omega) (fun q hq => by
                      rcases List.mem_append.1 hq with h | h
                      · exact ((unhide HC0).1 q h).later (unhide hbw)
                      · simp at h; subst h; exact ⟨by simp only; omega, zE, fun i hi => by simp at hi, by simp, fun x hx => by cases hx⟩)
                    have CG : ∀ q, q ∈ Ls ++ [⟨E, 0, []⟩] → q.g ≠ D := fun q hq => by
                      rcases List.mem_append.1 hq with h | h
                      · have := ((unhide HC0).1 q h).2.1; omega
                      · simp at h; subst h; simp only; omega
                    go_wp2_with fail
                    go_meet
                    exact ⟨D, g8, c8, E, rfl, by rw [World.cell?_setCell_other _ _ _ _ (by simp)]; exact World.cell?_setCell_same _ _ _ hD0, World.cell?_setCell_same _ _ _ (by rw [World.cell?_setCell_other _ _ _ _ (by simp)]; exact hD1), (CF.set CG (by simp [Value.ownBlock]; omega)).set CG (by simp [Value.ownBlock]; omega), (((unhide hbw).setCell yD _).setCell yD _)⟩
            case rest =>
              obtain ⟨D, g2, c2, e1, rfl, d0, d1, CD, bx⟩ := hcut
              have bw2 := bw.trans (bx.mono bw.size)
              have BLx := BLw.trans (bx.mono BLw.size)
              have p0 := (bw2.cell (p := ⟨w1.heap.size, 0, none⟩) lB).trans (unhide HP0)
              have p1 := (bw2.cell (p := ⟨w1.heap.size, 1, none⟩) lB).trans (unhide HP1)
              have HCD := hide CD
              have fit2 : Hid (Fits (Ls.length + 1) (cL (Ls ++ [⟨e1, 0, []⟩])) (cV (Ls ++ [⟨e1, 0, []⟩]))) := by
                have := CD.fits (by simp; omega)
                rw [List.length_append, List.length_singleton] at this
                exact this
              have rw2 := rws_len CD
              rw [List.length_append, List.length_singleton] at rw2
              have HRW := hide rw2
              clear CD rw2
              obtain ⟨we, hwe⟩ : ∃ x, x = wc.alloc (.cells #[.int .i64 m, .slice none 0 0] 25) := ⟨_, rfl⟩
              have be : Below wc.heap.size wc we := by rw [hwe]; exact (Below.refl _ _).alloc (Nat.le_refl _) _
              have g0 : we.cell? ⟨wc.heap.size, 0, none⟩ = some (.int .i64 m) := by rw [hwe]; simp [go_sem]
              have g1 : we.cell? ⟨wc.heap.size, 1, none⟩ = some (.slice none 0 0) := by rw [hwe]; simp [go_sem]
              have dl := World.block_lt_of_cell? _ _ d0
              simp only at dl
              have q0 := cell_later be d0
              have q1 := cell_later be d1
              have hbwe := bw2.trans (be.mono bw2.size)
              have HWE := hide hwe
              clear hwe
              go_wp2_with fail
              rw [← unhide HWE]
              go_wp2_with fail
              refine (iCnfHas_any m (some ⟨g2, 0, none⟩) (Ls.length + 1) c2 (cA (Ls ++ [⟨e1, 0, []⟩])) (cL (Ls ++ [⟨e1, 0, []⟩])) (cC (Ls ++ [⟨e1, 0, []⟩])) (cV (Ls ++ [⟨e1, 0, []⟩])) b l cb B we ((unhide HRW).later be) (unhide fit2) ((unhide HBv).later hbwe) (by omega)).mono ?_
              rintro e w7 ⟨rfl, b7⟩
              rw [empty_no rfl]
              have bf := hbwe.trans (b7.mono hbwe.size)
              replace g0 := cell_later b7 g0
              replace g1 := cell_later b7 g1
              have BLf := (BLx.trans (be.mono BLx.size)).trans (b7.mono (BLx.trans (be.mono BLx.size)).size)
              clear b7 q0 q1
              go_wp2_with fail
              refine (iCnfHas_any m none 0 0 (cA []) (cL []) (cC []) (cV []) b l cb B w7 (Or.inl rfl) ⟨by omega, fun i hi => by omega⟩ ((unhide HBv).later bf) (by omega)).mono ?_
              rintro e w8 ⟨rfl, b8⟩
              rw [none_yes (unhide HCB) (unhide HLM)]
              go_wp2
              go_ret
              exact ⟨rfl, BLf.trans (b8.mono BLf.size)⟩
      · have klm : ((l : Int) != m) = true := by simp [hlm]
        have hno : ok = false := by rw [unhide HOK]; exact chB_no (Or.inr hlm)
        subst hno
        clear hcv hlm
        go_wp2
        go_ret
        exact ⟨rfl, BLw⟩
  · go_enter Try.func3, Try.ntmps3
    go_wp2
    go_ret
    exact ⟨rfl, Below.refl _ _⟩

set_option maxRecDepth 100000 in
theorem lifted (os : Os) (started : os.Started) (H : Type) (enc : TypeId × Value → H) :
    ReturnsInHanded {} Try.checked os 3 .any (Rows.fnCnfHasSpec.pre6 enc Try.prog Try.f3 Rows.fnCnfHasRow.domain false) (Rows.fnCnfHasSpec.post enc Try.prog Try.f3 false true false false) := by
  refine returnsInHanded_of_change (C := Try.checked) own started (by kernel_rfl) Try.func3
    (ChangeSpec.witness6 (enc := enc) (C := Try.checked) false ⟨#[], #[.slice none 0 0], []⟩ 8 (by kernel_rfl) (by kernel_rfl) (by kernel_rfl) (by kernel_rfl)) ?_
  intro W base args ds gs before hval0 hW hcnd _
  have hval : ∀ (j : Nat) t v, Try.f3.params[j]? = some t → args[j]? = some v → Value.okWide Try.prog W .any base t v := hval0
  have hW' := hW
  obtain ⟨p, q, hA0, hV, rfl, hfz, hnd⟩ := hW
  have hA : DataW.TrodAll enc Try.prog W 0 (fun _ => true) true Try.f3.params.toList args.toList ds p := hA0
  rw [Try.params3] at hA hval
  obtain ⟨v0, vs0, d0, ds0, p0, q0, hargs, rfl, rfl, h0, r0⟩ := trodAll_cons hA
  obtain ⟨rfl, rfl, rfl⟩ := trodAll_nil r0
  obtain rfl : args = #[v0] := by cases args; simp_all
  obtain ⟨rfl, rfl⟩ := trodVars_none hV
  obtain ⟨code, lencode, capcode, rfl⟩ := okWide_slice Try.underlying22 (hval 0 22 v0 rfl rfl)
  have k0 := h0
  have lt0 : ∀ x ∈ p0, x.block < W.heap.size := by obtain ⟨m, hm⟩ := k0; exact DataW.trod_lt m _ _ _ hm
  obtain ⟨zcode, wcode⟩ : ∃ zs, IsRow .u8 W code lencode capcode zs := by
    obtain ⟨fuel, hf⟩ := h0
    rcases open_ints Try.underlying22 Try.underlying5 (by kernel_rfl) hf with ⟨hcs, _⟩ | ⟨x, l, c, zs, hcs, _, hl, hm, hz, _, hcell, hwz⟩
    · simp [Value.cells] at hcs
      obtain ⟨rfl, rfl, rfl⟩ := hcs
      exact ⟨[], .inl ⟨rfl, rfl, rfl, rfl⟩⟩
    · simp [Value.cells] at hcs
      obtain ⟨rfl, rfl, rfl⟩ := hcs
      exact ⟨zs, .inr ⟨_, rfl, hl, hm, by simpa using hz, hcell, hwz⟩⟩
  clear hA0 hval0
  refine (walk code lencode capcode zcode W wcode).mono fun e W' ⟨he, bel⟩ => ?_
  subst he
  exact ⟨_, rfl, _, _, _, [], _, [], hW', trodAll_mk1 (shut_bool Try.underlying4 _), (trodAll_cons_mk (Below.trod laidOut (by kernel_rfl) (of_decide_eq_true (by kernel_rfl)) k0 bel lt0) trodAll_mk0), rfl, bel.frame _, fun h => by cases h⟩

theorem over : Rows.fnCnfHasRow.holds Try.pinned (OpenSpec.ofChange Rows.fnCnfHasSpec) :=
  OpenClaim.holds_of_wide 3 Try.f3 rfl rfl rfl rfl rfl rfl rfl ⟨rfl, rfl, rfl, rfl, rfl⟩ rfl rfl rfl rfl rfl (by kernel_rfl) Try.func3 (by kernel_rfl)
    (of_decide_eq_true (by kernel_rfl)) (by unfold Func.isWrapper; first | (rw [if_pos (by decide +kernel)]; kernel_rfl) | (rw [if_neg (by decide +kernel)]; exact ⟨rfl, rfl⟩))
    (fun os started H enc _ => lifted os started H enc)
end cHas

theorem cHas_holds : Rows.FnCnfHasSaid := cHas.over
#print axioms cHas_holds
end Go.Proofs.Ytihihjchkniifaa
