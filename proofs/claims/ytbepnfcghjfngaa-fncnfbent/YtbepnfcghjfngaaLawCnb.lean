/- A formula that is not right is refused: the law FnCnfBent returns true for every code of bytes, and leaves it as it was. No condition (the law itself answers true where the code is longer than 1048576 bytes). -/
import Derived.Test.YtbepnfcghjfngaaCldE
import Derived.Test.YtbepnfcghjfngaaCldD
import Derived.Test.YtbepnfcghjfngaaCnfE
import Derived.Test.YtbepnfcghjfngaaRowC
import Derived.Test.YtbepnfcghjfngaaStpA
import Derived.Deep.DeepCutAuto
namespace Go.Proofs.Ytbepnfcghjfngaa
open Go.ChangeShapes Go.WideShapes Go.ChangeAt Go.RowKit Go.Joins
open Go.ChangeMaps (open_string shut_string)
set_option linter.unusedVariables false
set_option linter.unusedSimpArgs false
theorem withGo {P : Program} {md : Region.Mode} {ops : Array Oper} {Q : Exit → Act → World → Prop} {S : World → Prop} {f : Nat} {l : Array Bool} {a : Act} {w : World} (h : ∀ (Go : Nat → Array Bool → Act → World → Prop) (a0 : Act), Hid (Go = wpAnyH P md ops Q S) → Hid (a0 = a) → Go f l a0 w) : wpAnyH P md ops Q S f l a w := h _ _ rfl rfl
theorem goTo {Go : Nat → Array Bool → Act → World → Prop} {f f' : Nat} {l l' : Array Bool} {a a' : Act} {w : World} (H : Go f' l' a' w) (hf : f = f') (hl : l = l') (ha : a = a') : Go f l a w := by subst hf hl ha; exact H
theorem alloc_at {w : World} {o : Obj} {k : Nat} (h : k = w.heap.size) : (w.alloc o).heap[k]? = some o := by subst h; exact heap_alloc_new w o
theorem Clz.Ok.low {q : Clz} {w : World} {R : Nat} (h : q.Ok w R) : q.Ok w 0 := ⟨by have := h.1; omega, h.2⟩
theorem ClzAt.low {w : World} {R : Nat} {v : Value} {Ls : List Clz} (h : ClzAt w R v Ls) : ClzAt w 0 v Ls := by
  refine ⟨fun q hq => (h.1 q hq).low, ?_⟩
  rcases h.2 with e | ⟨b, cap, e, h1, h2, h3, h4⟩
  · exact Or.inl e
  · exact Or.inr ⟨b, cap, e, h1, by omega, h3, h4⟩

namespace cBent
set_option maxRecDepth 100000 in
set_option maxHeartbeats 100000000 in
theorem walk (code : Option Addr) (lencode capcode : Nat) (zcode : List Int) (w : World) (wcode : IsRow .u8 w code lencode capcode zcode) :
    Calls Try.prog 3 #[.slice code lencode capcode] w fun e w' => e = .returned (.bool true) ∧ Below w.heap.size w w' := by
  obtain ⟨hby, hlc, hcm⟩ := wcode.byts
  by_cases hl0 : lencode ≤ 1048576
  · go_enter Try.func3, Try.ntmps3
    go_wp2_with fail
    refine (drawCnfSame_any _ _ _ _ hl0 hlc hcm hby).mono ?_
    rintro e w1 ⟨m, v, Lc, md, vd, Ld, R, rfl, hm1, hm7, hmd, hLc, hLd, C, D, BL⟩
    clear wcode hby
    obtain ⟨a, cp, rfl, _⟩ := C.slice
    obtain ⟨ad, cq, rfl, _⟩ := D.slice
    have FitC := hide (C.fits (by omega))
    have FitD := hide (D.fits (by omega))
    obtain ⟨wa, hwa⟩ : ∃ x, x = w1.alloc (.cells #[.int .i64 (m : Int), .slice a Lc.length cp] 25) := ⟨_, rfl⟩
    obtain ⟨wb, hwb⟩ : ∃ x, x = wa.alloc (.cells #[.int .i64 md, .slice ad Ld.length cq] 25) := ⟨_, rfl⟩
    have sa : wa.heap.size = w1.heap.size + 1 := by rw [hwa]; simp
    have lD : w1.heap.size + 1 < wb.heap.size := by rw [hwb, ← sa]; simp
    have lB : w1.heap.size < wb.heap.size := by omega
    have b0 : Below w1.heap.size w1 wa := by rw [hwa]; exact (Below.refl _ _).alloc (Nat.le_refl _) _
    have b01 : Below wa.heap.size wa wb := by rw [hwb]; exact (Below.refl _ _).alloc (Nat.le_refl _) _
    have b1 : Below w1.heap.size w1 wb := b0.trans (b01.mono b0.size)
    have p0 : wb.cell? ⟨w1.heap.size, 0, none⟩ = some (.int .i64 (m : Int)) := cell_later b01 (by rw [hwa]; simp [go_sem])
    have p1 : wb.cell? ⟨w1.heap.size, 1, none⟩ = some (.slice a Lc.length cp) := cell_later b01 (by rw [hwa]; simp [go_sem])
    have p2 : wb.cell? ⟨w1.heap.size + 1, 0, none⟩ = some (.int .i64 md) := by rw [← sa, hwb]; simp [go_sem]
    have p3 : wb.cell? ⟨w1.heap.size + 1, 1, none⟩ = some (.slice ad Ld.length cq) := by rw [← sa, hwb]; simp [go_sem]
    have HC := hide (C.later b1)
    have HD := hide (D.later b1)
    have BLb := BL.trans (b1.mono BL.size)
    have HWA := hide hwa
    have HWB := hide hwb
    have bw : Below wb.heap.size wb wb := Below.refl _ _
    clear C D hwb hwa b1 b0 b01 sa
    have HP0 := hide p0
    have HP1 := hide p1
    have HP2 := hide p2
    have HP3 := hide p3
    obtain ⟨sm, hsm⟩ : ∃ x, x = sameB (m : Int) md Lc.length Ld.length (cL Lc) (cL Ld) (cV Lc) (cV Ld) := ⟨_, rfl⟩
    obtain ⟨od, hod⟩ : ∃ x, x = cnfB md Ld.length (cL Ld) (cV Ld) := ⟨_, rfl⟩
    have HSM := hide hsm
    have HOD := hide hod
    have ksm : (sm != sm) = false := by simp
    have kod : (od != od) = false := by simp
    clear hsm hod
    go_wp2_with fail
    rw [← unhide HWA, ← unhide HWB]
    go_region_held3 (fun w' => w'.cell? ⟨w1.heap.size, 0, none⟩ = some (.int .i64 (m : Int)) ∧ w'.cell? ⟨w1.heap.size, 1, none⟩ = some (.slice a Lc.length cp) ∧ w'.cell? ⟨w1.heap.size + 1, 0, none⟩ = some (.int .i64 md) ∧ w'.cell? ⟨w1.heap.size + 1, 1, none⟩ = some (.slice ad Ld.length cq)) (first | go_keep | exact ⟨p0, p1, p2, p3⟩)
      (first | (go_at_call 5; (with_reducible show Calls _ _ #[.agg #[.int .i64 (m : Int), .slice a Lc.length cp], .agg #[.int .i64 md, .slice ad Ld.length cq]] _ _); refine (iCnfSame_any (m : Int) md a ad Lc.length Ld.length cp cq (cA Lc) (cA Ld) (cL Lc) (cL Ld) (cC Lc) (cC Ld) (cV Lc) (cV Ld) _ (rws_len ((unhide HC).later (by first | exact bw | exact bw.drew | exact bw.drew.drew))) (unhide FitC) (rws_len ((unhide HD).later (by first | exact bw | exact bw.drew | exact bw.drew.drew))) (unhide FitD)).mono ?_; rintro e wq ⟨rfl, bq⟩; rw [← unhide HSM]; replace bw := ((by first | exact bw | exact bw.drew | exact bw.drew.drew) : Below wb.heap.size wb _).trans (bq.mono bw.size); clear bq; replace p0 := (bw.cell (p := ⟨w1.heap.size, 0, none⟩) lB).trans (unhide HP0); replace p1 := (bw.cell (p := ⟨w1.heap.size, 1, none⟩) lB).trans (unhide HP1); replace p2 := (bw.cell (p := ⟨w1.heap.size + 1, 0, none⟩) lD).trans (unhide HP2); replace p3 := (bw.cell (p := ⟨w1.heap.size + 1, 1, none⟩) lD).trans (unhide HP3)) | (go_at_call 6; (with_reducible show Calls _ _ #[.agg #[.int .i64 (m : Int), .slice a Lc.length cp], .agg #[.int .i64 md, .slice ad Ld.length cq]] _ _); refine (sCnfSame_any (m : Int) md a ad Lc.length Ld.length cp cq (cA Lc) (cA Ld) (cL Lc) (cL Ld) (cC Lc) (cC Ld) (cV Lc) (cV Ld) _ (rws_len ((unhide HC).later (by first | exact bw | exact bw.drew | exact bw.drew.drew))) (unhide FitC) (rws_len ((unhide HD).later (by first | exact bw | exact bw.drew | exact bw.drew.drew))) (unhide FitD)).mono ?_; rintro e wq ⟨rfl, bq⟩; rw [← unhide HSM]; replace bw := ((by first | exact bw | exact bw.drew | exact bw.drew.drew) : Below wb.heap.size wb _).trans (bq.mono bw.size); clear bq; replace p0 := (bw.cell (p := ⟨w1.heap.size, 0, none⟩) lB).trans (unhide HP0); replace p1 := (bw.cell (p := ⟨w1.heap.size, 1, none⟩) lB).trans (unhide HP1); replace p2 := (bw.cell (p := ⟨w1.heap.size + 1, 0, none⟩) lD).trans (unhide HP2); replace p3 := (bw.cell (p := ⟨w1.heap.size + 1, 1, none⟩) lD).trans (unhide HP3)) | (go_at_call 5; (with_reducible show Calls _ _ #[.agg #[.int .i64 md, .slice ad Ld.length cq], .agg #[.int .i64 (m : Int), .slice a Lc.length cp]] _ _); refine (iCnfSame_any md (m : Int) ad a Ld.length Lc.length cq cp (cA Ld) (cA Lc) (cL Ld) (cL Lc) (cC Ld) (cC Lc) (cV Ld) (cV Lc) _ (rws_len ((unhide HD).later (by first | exact bw | exact bw.drew | exact bw.drew.drew))) (unhide FitD) (rws_len ((unhide HC).later (by first | exact bw | exact bw.drew | exact bw.drew.drew))) (unhide FitC)).mono ?_; rintro e wq ⟨rfl, bq⟩; rw [sameB_comm, ← unhide HSM]; replace bw := ((by first | exact bw | exact bw.drew | exact bw.drew.drew) : Below wb.heap.size wb _).trans (bq.mono bw.size); clear bq; replace p0 := (bw.cell (p := ⟨w1.heap.size, 0, none⟩) lB).trans (unhide HP0); replace p1 := (bw.cell (p := ⟨w1.heap.size, 1, none⟩) lB).trans (unhide HP1); replace p2 := (bw.cell (p := ⟨w1.heap.size + 1, 0, none⟩) lD).trans (unhide HP2); replace p3 := (bw.cell (p := ⟨w1.heap.size + 1, 1, none⟩) lD).trans (unhide HP3)) | (go_at_call 5; (with_reducible show Calls _ _ #[.agg #[.int .i64 (m : Int), .slice a Lc.length cp], .agg #[.int .i64 (m : Int), .slice a Lc.length cp]] _ _); refine (iCnfSame_any (m : Int) (m : Int) a a Lc.length Lc.length cp cp (cA Lc) (cA Lc) (cL Lc) (cL Lc) (cC Lc) (cC Lc) (cV Lc) (cV Lc) _ (rws_len ((unhide HC).later (by first | exact bw | exact bw.drew | exact bw.drew.drew))) (unhide FitC) (rws_len ((unhide HC).later (by first | exact bw | exact bw.drew | exact bw.drew.drew))) (unhide FitC)).mono ?_; rintro e wq ⟨rfl, bq⟩; rw [sameB_self]; replace bw := ((by first | exact bw | exact bw.drew | exact bw.drew.drew) : Below wb.heap.size wb _).trans (bq.mono bw.size); clear bq; replace p0 := (bw.cell (p := ⟨w1.heap.size, 0, none⟩) lB).trans (unhide HP0); replace p1 := (bw.cell (p := ⟨w1.heap.size, 1, none⟩) lB).trans (unhide HP1); replace p2 := (bw.cell (p := ⟨w1.heap.size + 1, 0, none⟩) lD).trans (unhide HP2); replace p3 := (bw.cell (p := ⟨w1.heap.size + 1, 1, none⟩) lD).trans (unhide HP3)) | (go_at_call 7; refine (iCnfOk_any md ad Ld.length cq (cA Ld) (cL Ld) (cC Ld) (cV Ld) _ (rws_len ((unhide HD).later (by first | exact bw | exact bw.drew | exact bw.drew.drew))) (unhide FitD)).mono ?_; rintro e wp ⟨rfl, bp⟩; rw [← unhide HOD]; replace bw := ((by first | exact bw | exact bw.drew | exact bw.drew.drew) : Below wb.heap.size wb _).trans (bp.mono bw.size); clear bp; replace p0 := (bw.cell (p := ⟨w1.heap.size, 0, none⟩) lB).trans (unhide HP0); replace p1 := (bw.cell (p := ⟨w1.heap.size, 1, none⟩) lB).trans (unhide HP1); replace p2 := (bw.cell (p := ⟨w1.heap.size + 1, 0, none⟩) lD).trans (unhide HP2); replace p3 := (bw.cell (p := ⟨w1.heap.size + 1, 1, none⟩) lD).trans (unhide HP3)) | (go_at_call 8; refine (sCnfOk_any md ad Ld.length cq (cA Ld) (cL Ld) (cC Ld) (cV Ld) _ (rws_len ((unhide HD).later (by first | exact bw | exact bw.drew | exact bw.drew.drew))) (unhide FitD)).mono ?_; rintro e wo ⟨rfl, bo⟩; rw [← unhide HOD]; replace bw := ((by first | exact bw | exact bw.drew | exact bw.drew.drew) : Below wb.heap.size wb _).trans (bo.mono bw.size); clear bo; replace p0 := (bw.cell (p := ⟨w1.heap.size, 0, none⟩) lB).trans (unhide HP0); replace p1 := (bw.cell (p := ⟨w1.heap.size, 1, none⟩) lB).trans (unhide HP1); replace p2 := (bw.cell (p := ⟨w1.heap.size + 1, 0, none⟩) lD).trans (unhide HP2); replace p3 := (bw.cell (p := ⟨w1.heap.size + 1, 1, none⟩) lD).trans (unhide HP3)))
    go_wp2_with fail
    refine (iCnfOk_any (m : Int) a Lc.length cp (cA Lc) (cL Lc) (cC Lc) (cV Lc) _ (rws_len ((unhide HC).later (by first | exact bw | exact bw.drew | exact bw.drew.drew))) (unhide FitC)).mono ?_
    rintro e w3 ⟨rfl, b3⟩
    replace bw := ((by first | exact bw | exact bw.drew | exact bw.drew.drew) : Below wb.heap.size wb _).trans (b3.mono bw.size); clear b3; replace p0 := (bw.cell (p := ⟨w1.heap.size, 0, none⟩) lB).trans (unhide HP0); replace p1 := (bw.cell (p := ⟨w1.heap.size, 1, none⟩) lB).trans (unhide HP1); replace p2 := (bw.cell (p := ⟨w1.heap.size + 1, 0, none⟩) lD).trans (unhide HP2); replace p3 := (bw.cell (p := ⟨w1.heap.size + 1, 1, none⟩) lD).trans (unhide HP3)
    have BLw := BLb.trans (bw.mono BLb.size)
    cases hcv : cnfB (m : Int) Lc.length (cL Lc) (cV Lc)
    · go_wp2
      go_ret
      exact ⟨rfl, BLw⟩
    · have HCB := hide (cnfB_iff.1 hcv)
      have km : ¬ ((m : Int) < 1) := by omega
      clear hcv
      clear HD FitD HSM HOD ksm kod HWA HWB HP2 HP3 p2 p3 lD hmd hLd BLb
      go_wp2
      go_cut [5] (fun s8 wx => ∃ (D g2 c2 e1 : Nat), s8 = .pointer (some ⟨D, 0, none⟩) ∧ wx.cell? ⟨D, 0, none⟩ = some (.int .i64 (m : Int)) ∧ wx.cell? ⟨D, 1, none⟩ = some (.slice (some ⟨g2, 0, none⟩) (Lc.length + 1) c2) ∧ ClzAt wx 0 (.slice (some ⟨g2, 0, none⟩) (Lc.length + 1) c2) (Lc ++ [⟨e1, 1, [(m : Int) + 1]⟩]) ∧ Below w3.heap.size w3 wx)
      case first =>
        clear BLw BL FitC HP0 HP1 HCB
        refine wp_region_held_drew (S := fun w' => w'.cell? ⟨w1.heap.size, 0, none⟩ = some (.int .i64 (m : Int)) ∧ w'.cell? ⟨w1.heap.size, 1, none⟩ = some (.slice a Lc.length cp)) (by kernel_rfl) ?_ (fun hHeld => ?_)
        · exact ⟨p0, p1⟩
        have HC0 := hide ((unhide HC).later bw).low
        have wlr : w1.heap.size < w3.heap.size := Nat.lt_of_lt_of_le lB bw.size
        have wpos : 0 < w3.heap.size := by omega
        have hLit : Hid (∀ x, x ∈ ([(m : Int) + 1] : List Int) → W64 x) := by intro x hx; simp at hx; unfold W64; omega
        obtain ⟨wd, hwd⟩ : ∃ x, x = w3.drew := ⟨_, rfl⟩
        have hbw : Hid (Below w3.heap.size w3 wd) := by show _; rw [hwd]; exact (Below.refl _ _).drew
        have p0 : wd.cell? ⟨w1.heap.size, 0, none⟩ = some (.int .i64 (m : Int)) := by rw [hwd]; exact p0
        have p1 : wd.cell? ⟨w1.heap.size, 1, none⟩ = some (.slice a Lc.length cp) := by rw [hwd]; exact p1
        rw [← hwd]
        (try rw [← hwd] at hHeld)
        clear hwd
        refine wpAnyH_take (i := 0) (v := ?_) rfl (by kernel_rfl) (by kernel_rfl) (by kernel_rfl) (fun _ _ _ h => h) (Or.inl ⟨by rfl, ?_⟩) (by assumption) ?_
        rotate_left
        · (intro w hSw; (try dsimp only at hSw); first | (go_simp; done) | (go_simp; with_reducible rfl))
        try simp only [List.getElem_toArray, List.getElem_cons_succ, List.getElem_cons_zero, Act.put, List.setIfInBounds_toArray, List.set_cons_zero, List.set_cons_succ]
        refine wpAnyH_take (i := 1) (v := ?_) rfl (by kernel_rfl) (by kernel_rfl) (by kernel_rfl) (fun _ _ _ h => h) (Or.inl ⟨by rfl, ?_⟩) (by assumption) ?_
        rotate_left
        · (intro w hSw; (try dsimp only at hSw); first | (go_simp; done) | (go_simp; with_reducible rfl))
        try simp only [List.getElem_toArray, List.getElem_cons_succ, List.getElem_cons_zero, Act.put, List.setIfInBounds_toArray, List.set_cons_zero, List.set_cons_succ]
        refine wpAnyH_take (i := 3) (v := ?_) rfl (by kernel_rfl) (by kernel_rfl) (by kernel_rfl) (fun _ _ _ h => h) (Or.inl ⟨by rfl, ?_⟩) (by assumption) ?_
        rotate_left
        · (intro w hSw; (try dsimp only at hSw); first | (go_simp; done) | (go_simp; with_reducible rfl))
        try simp only [List.getElem_toArray, List.getElem_cons_succ, List.getElem_cons_zero, Act.put, List.setIfInBounds_toArray, List.set_cons_zero, List.set_cons_succ]
        refine wpAnyH_take (i := 4) (v := ?_) rfl (by kernel_rfl) (by kernel_rfl) (by kernel_rfl) (fun _ _ _ h => h) (Or.inl ⟨by rfl, ?_⟩) (by assumption) ?_
        rotate_left
        · (intro w hSw; (try dsimp only at hSw); first | (go_simp; done) | (go_simp; with_reducible rfl))
        try simp only [List.getElem_toArray, List.getElem_cons_succ, List.getElem_cons_zero, Act.put, List.setIfInBounds_toArray, List.set_cons_zero, List.set_cons_succ]
        refine wpAnyH_take (i := 6) (v := ?_) rfl (by kernel_rfl) (by kernel_rfl) (by kernel_rfl) (fun _ _ _ h => h) (Or.inl ⟨by rfl, ?_⟩) (by assumption) ?_
        rotate_left
        · (intro w hSw; (try dsimp only at hSw); first | (go_simp; done) | (go_simp; with_reducible rfl))
        try simp only [List.getElem_toArray, List.getElem_cons_succ, List.getElem_cons_zero, Act.put, List.setIfInBounds_toArray, List.set_cons_zero, List.set_cons_succ]
        refine wpAnyH_take (i := 7) (v := ?_) rfl (by kernel_rfl) (by kernel_rfl) (by kernel_rfl) (fun _ _ _ h => h) (Or.inl ⟨by rfl, ?_⟩) (by assumption) ?_
        rotate_left
        · (intro w hSw; (try dsimp only at hSw); first | (go_simp; done) | (go_simp; with_reducible rfl))
        try simp only [List.getElem_toArray, List.getElem_cons_succ, List.getElem_cons_zero, Act.put, List.setIfInBounds_toArray, List.set_cons_zero, List.set_cons_succ]
        refine wpAnyH_take (i := 8) (v := ?_) rfl (by kernel_rfl) (by kernel_rfl) (by kernel_rfl) (fun _ _ _ h => h) (Or.inl ⟨by rfl, ?_⟩) (by assumption) ?_
        rotate_left
        · (intro w hSw; (try dsimp only at hSw); first | (go_simp; done) | (go_simp; with_reducible rfl))
        try simp only [List.getElem_toArray, List.getElem_cons_succ, List.getElem_cons_zero, Act.put, List.setIfInBounds_toArray, List.set_cons_zero, List.set_cons_succ]
        rw [show IntKind.i64.wrap ((m : Int) + 1) = (m : Int) + 1 from by rw [IntKind.wrap_i64]; omega]
        refine withGo (fun Go a0 hGo ha0 => ?_)
        have N_2_5_9_10_11_13 : ∀ (X g5 c5 E T g8 c8 D : Nat) (v : World) (hbw : Hid (Below w3.heap.size w3 v)) (p0 : v.cell? ⟨w1.heap.size, 0, none⟩ = some (.int .i64 (m : Int))) (p1 : v.cell? ⟨w1.heap.size, 1, none⟩ = some (.slice a Lc.length cp)) (hE : Hid (Clz.Ok (⟨E, 1, [(m : Int) + 1]⟩ : Clz) v 0)) (zE : E < v.heap.size) (yE : w3.heap.size ≤ E) (hF : Hid (v.ownsRow w3.heap.size 30 1 (.slice (some ⟨g8, 0, none⟩) (Lc.length + 1) c8) (Lc.length + 1) (scells (Lc ++ [(⟨E, 1, [(m : Int) + 1]⟩ : Clz)])))) (zF : g8 < v.heap.size) (yF : w3.heap.size ≤ g8) (hD0 : v.cell? ⟨D, 0, none⟩ = some (.int .i64 0)) (hD1 : v.cell? ⟨D, 1, none⟩ = some (.slice none 0 0)) (hDf0 : v.frozen? ⟨D, 0, none⟩ = false) (hDf1 : v.frozen? ⟨D, 1, none⟩ = false) (zD : D < v.heap.size) (yD : w3.heap.size ≤ D) (nEF : E ≠ g8) (nED : E ≠ D) (nFD : g8 ≠ D), Go 1 #[true, true, true, true, true, true, true, true, true, true, true, true, true, true, false] (((((((a0.put (some 56) (.slice (some ⟨X, 0, none⟩) 0 0)).put (some 59) (.slice (some ⟨g5, 0, none⟩) Lc.length c5)).put (some 63) (.slice (some ⟨E, 0, none⟩) 1 1)).put (some 64) (.slice (some ⟨T, 0, none⟩) 1 1)).put (some 65) (.slice (some ⟨g8, 0, none⟩) (Lc.length + 1) c8)).put (some 5) (.pointer (some ⟨D, 0, none⟩))).put (some 66) (.agg #[.int .i64 (m : Int), .slice (some ⟨g8, 0, none⟩) (Lc.length + 1) c8])) v := by
          intro X g5 c5 E T g8 c8 D v hbw p0 p1 hE zE yE hF zF yF hD0 hD1 hDf0 hDf1 zD yD nEF nED nFD
          rw [unhide hGo, unhide ha0]
          try simp only [List.getElem_toArray, List.getElem_cons_succ, List.getElem_cons_zero, Act.put, List.setIfInBounds_toArray, List.set_cons_zero, List.set_cons_succ]
          have hHeld : v.cell? ⟨w1.heap.size, 0, none⟩ = some (.int .i64 (m : Int)) ∧ v.cell? ⟨w1.heap.size, 1, none⟩ = some (.slice a Lc.length cp) := ⟨p0, p1⟩
          refine wpAnyH_ready (rs := [14]) (by kernel_rfl) (by simp) ?_
          refine AllReadyH.cons rfl (fun K hK => ?_) AllReadyH.nil
          go_simp
          refine hK.out _ _ ?_ (fun hHeld => ?_)
          · exact ⟨by rw [World.cell?_setCell_other _ _ _ _ (by simp <;> omega), World.cell?_setCell_other _ _ _ _ (by simp <;> omega)]; exact p0, by rw [World.cell?_setCell_other _ _ _ _ (by simp <;> omega), World.cell?_setCell_other _ _ _ _ (by simp <;> omega)]; exact p1⟩
          clear hK K
          try simp only [List.getElem_toArray, List.getElem_cons_succ, List.getElem_cons_zero, Act.put, List.setIfInBounds_toArray, List.set_cons_zero, List.set_cons_succ]
          refine wpAnyH_done (by kernel_rfl) ?_ _
          have CF : ClzAt v 0 (.slice (some ⟨g8, 0, none⟩) (Lc.length + 1) c8) (Lc ++ [(⟨E, 1, [(m : Int) + 1]⟩ : Clz)]) := own_clz (unhide hF) (by omega) (fun q hq => by
            rcases List.mem_append.1 hq with h | h
            · exact ((unhide HC0).1 q h).later (unhide hbw)
            · simp at h; subst h; exact unhide hE)
          have CG : ∀ q, q ∈ Lc ++ [(⟨E, 1, [(m : Int) + 1]⟩ : Clz)] → q.g ≠ D := fun q hq => by
            rcases List.mem_append.1 hq with h | h
            · have := ((unhide HC0).1 q h).2.1; omega
            · simp at h; subst h; exact nED
          go_wp2_with fail
          go_meet
          exact ⟨D, g8, c8, E, rfl, by rw [World.cell?_setCell_other _ _ _ _ (by simp)]; exact World.cell?_setCell_same _ _ _ hD0, World.cell?_setCell_same _ _ _ (by rw [World.cell?_setCell_other _ _ _ _ (by simp)]; exact hD1), (CF.set CG (by simp [Value.ownBlock]; omega)).set CG (by simp [Value.ownBlock]; omega), (((unhide hbw).setCell yD _).setCell yD _)⟩
        have N_2_5_9_10_11 : ∀ (X g5 c5 E T g8 c8 : Nat) (v : World) (hbw : Hid (Below w3.heap.size w3 v)) (p0 : v.cell? ⟨w1.heap.size, 0, none⟩ = some (.int .i64 (m : Int))) (p1 : v.cell? ⟨w1.heap.size, 1, none⟩ = some (.slice a Lc.length cp)) (hE : Hid (Clz.Ok (⟨E, 1, [(m : Int) + 1]⟩ : Clz) v 0)) (zE : E < v.heap.size) (yE : w3.heap.size ≤ E) (hF : Hid (v.ownsRow w3.heap.size 30 1 (.slice (some ⟨g8, 0, none⟩) (Lc.length + 1) c8) (Lc.length + 1) (scells (Lc ++ [(⟨E, 1, [(m : Int) + 1]⟩ : Clz)])))) (zF : g8 < v.heap.size) (yF : w3.heap.size ≤ g8) (nEF : E ≠ g8), Go 2 #[true, true, true, true, true, true, true, true, true, true, true, true, true, false, false] ((((((a0.put (some 56) (.slice (some ⟨X, 0, none⟩) 0 0)).put (some 59) (.slice (some ⟨g5, 0, none⟩) Lc.length c5)).put (some 63) (.slice (some ⟨E, 0, none⟩) 1 1)).put (some 64) (.slice (some ⟨T, 0, none⟩) 1 1)).put (some 65) (.slice (some ⟨g8, 0, none⟩) (Lc.length + 1) c8)).put (some 66) (.agg #[.int .i64 (m : Int), .slice (some ⟨g8, 0, none⟩) (Lc.length + 1) c8])) v := by
          intro X g5 c5 E T g8 c8 v hbw p0 p1 hE zE yE hF zF yF nEF
          rw [unhide hGo, unhide ha0]
          try simp only [List.getElem_toArray, List.getElem_cons_succ, List.getElem_cons_zero, Act.put, List.setIfInBounds_toArray, List.set_cons_zero, List.set_cons_succ]
          have hHeld : v.cell? ⟨w1.heap.size, 0, none⟩ = some (.int .i64 (m : Int)) ∧ v.cell? ⟨w1.heap.size, 1, none⟩ = some (.slice a Lc.length cp) := ⟨p0, p1⟩
          refine wpAnyH_ready (rs := [13]) (by kernel_rfl) (by simp) ?_
          refine AllReadyH.cons rfl (fun K hK => ?_) AllReadyH.nil
          go_simp
          obtain ⟨u, hu⟩ : ∃ z, z = v.alloc (.cells #[.int .i64 0, .slice none 0 0] 25) := ⟨_, rfl⟩
          have b : Below v.heap.size v u := by rw [hu]; exact (Below.refl _ _).alloc (Nat.le_refl _) _
          have eu : v.heap.size < u.heap.size := by rw [hu]; simp
          have fu : w3.heap.size ≤ v.heap.size := (unhide hbw).size
          have hE := hide ((unhide hE).later b)
          have zE : E < u.heap.size := Nat.lt_of_lt_of_le zE b.size
          have hF := hide (World.ownsRow.kept (w' := u) (unhide hF) (grown_below b) (by simp [Value.ownBlock]))
          have zF : g8 < u.heap.size := Nat.lt_of_lt_of_le zF b.size
          have hbw := hide ((unhide hbw).trans (b.mono (unhide hbw).size))
          have p0 := cell_later b p0
          have p1 := cell_later b p1
          have hD0 : u.cell? ⟨v.heap.size, 0, none⟩ = some (.int .i64 0) := by rw [hu]; simp [go_sem]
          have hD1 : u.cell? ⟨v.heap.size, 1, none⟩ = some (.slice none 0 0) := by rw [hu]; simp [go_sem]
          have hDf0 : u.frozen? ⟨v.heap.size, 0, none⟩ = false := by rw [hu]; simp [go_sem]
          have hDf1 : u.frozen? ⟨v.heap.size, 1, none⟩ = false := by rw [hu]; simp [go_sem]
          have nED : E ≠ v.heap.size := by omega
          have nFD : g8 ≠ v.heap.size := by omega
          rw [← hu]
          obtain ⟨D, hDe⟩ : ∃ z, z = v.heap.size := ⟨_, rfl⟩
          rw [← hDe] at hD0 hD1 hDf0 hDf1 nED nFD ⊢
          have zD : D < u.heap.size := by omega
          have yD : w3.heap.size ≤ D := by omega
          clear hu b eu fu hDe
          refine hK.out _ _ ?_ (fun hHeld => ?_)
          · exact ⟨p0, p1⟩
          clear hK K
          try simp only [List.getElem_toArray, List.getElem_cons_succ, List.getElem_cons_zero, Act.put, List.setIfInBounds_toArray, List.set_cons_zero, List.set_cons_succ]
          rw [← unhide hGo]
          exact goTo (N_2_5_9_10_11_13 X g5 c5 E T g8 c8 D u hbw p0 p1 hE zE yE hF zF yF hD0 hD1 hDf0 hDf1 zD yD nEF nED nFD) (by kernel_rfl) (by kernel_rfl) (by rw [unhide ha0]; kernel_rfl)
        have N_2_5_9_10_13 : ∀ (X g5 c5 E T D : Nat) (v : World) (hbw : Hid (Below w3.heap.size w3 v)) (p0 : v.cell? ⟨w1.heap.size, 0, none⟩ = some (.int .i64 (m : Int))) (p1 : v.cell? ⟨w1.heap.size, 1, none⟩ = some (.slice a Lc.length cp)) (hO : Hid (v.ownsRow w3.heap.size 30 1 (.slice (some ⟨g5, 0, none⟩) Lc.length c5) Lc.length (scells Lc))) (zO : g5 < v.heap.size) (yO : w3.heap.size ≤ g5) (hE : Hid (Clz.Ok (⟨E, 1, [(m : Int) + 1]⟩ : Clz) v 0)) (zE : E < v.heap.size) (yE : w3.heap.size ≤ E) (hT : v.cell? ⟨T, 0, none⟩ = some (.slice (some ⟨E, 0, none⟩) 1 1)) (zT : T < v.heap.size) (yT : w3.heap.size ≤ T) (hD0 : v.cell? ⟨D, 0, none⟩ = some (.int .i64 0)) (hD1 : v.cell? ⟨D, 1, none⟩ = some (.slice none 0 0)) (hDf0 : v.frozen? ⟨D, 0, none⟩ = false) (hDf1 : v.frozen? ⟨D, 1, none⟩ = false) (zD : D < v.heap.size) (yD : w3.heap.size ≤ D) (nOE : g5 ≠ E) (nOT : g5 ≠ T) (nOD : g5 ≠ D) (nET : E ≠ T) (nED : E ≠ D) (nTD : T ≠ D), Go 3 #[true, true, true, true, true, true, true, true, true, true, true, false, false, true, false] (((((a0.put (some 56) (.slice (some ⟨X, 0, none⟩) 0 0)).put (some 59) (.slice (some ⟨g5, 0, none⟩) Lc.length c5)).put (some 63) (.slice (some ⟨E, 0, none⟩) 1 1)).put (some 64) (.slice (some ⟨T, 0, none⟩) 1 1)).put (some 5) (.pointer (some ⟨D, 0, none⟩))) v := by
          intro X g5 c5 E T D v hbw p0 p1 hO zO yO hE zE yE hT zT yT hD0 hD1 hDf0 hDf1 zD yD nOE nOT nOD nET nED nTD
          rw [unhide hGo, unhide ha0]
          try simp only [List.getElem_toArray, List.getElem_cons_succ, List.getElem_cons_zero, Act.put, List.setIfInBounds_toArray, List.set_cons_zero, List.set_cons_succ]
          have hHeld : v.cell? ⟨w1.heap.size, 0, none⟩ = some (.int .i64 (m : Int)) ∧ v.cell? ⟨w1.heap.size, 1, none⟩ = some (.slice a Lc.length cp) := ⟨p0, p1⟩
          refine wpAnyH_ready (rs := [11]) (by kernel_rfl) (by simp) ?_
          refine AllReadyH.cons rfl (fun K hK => ?_) AllReadyH.nil
          apply step_clz_one (Ls := Lc) (q := (⟨E, 1, [(m : Int) + 1]⟩ : Clz)) (base := w3.heap.size)
          case hgd => rfl
          case ho => rfl
          case hty => rfl
          case hs => rfl
          case hown => exact unhide hO
          case hbase => exact (unhide hbw).size
          case hx => rfl
          case hT => exact hT
          case hl => omega
          case' h => intro g8 c8 u o8 gr8 at8 lt8
          have mv8 : Mov g5 _ u := mov_of_grown gr8
          have hE := hide ((unhide hE).grown (grown_mov mv8) (by simp only [ne_eq, Option.some.injEq]; omega))
          have zE : E < u.heap.size := Nat.lt_of_lt_of_le zE mv8.size
          have hD0 := mv8.cell hD0 (by simp only; omega)
          have hD1 := mv8.cell hD1 (by simp only; omega)
          have hDf0 := (World.frozen?_of_block (w := v) (a := ⟨D, 0, none⟩) (mv8.2.2.2.2 D zD (by omega))).trans hDf0
          have hDf1 := (World.frozen?_of_block (w := v) (a := ⟨D, 1, none⟩) (mv8.2.2.2.2 D zD (by omega))).trans hDf1
          have zD : D < u.heap.size := Nat.lt_of_lt_of_le zD mv8.size
          have p0 := mv8.cell p0 (by simp only; omega)
          have p1 := mv8.cell p1 (by simp only; omega)
          have hbw := hide ((unhide hbw).trans (mv8.below yO (unhide hbw).size))
          have hF := hide o8
          have zF := lt8
          have yF : w3.heap.size ≤ g8 := own_base o8
          have nEF : E ≠ g8 := by rcases at8 with e | e <;> omega
          have nFD : g8 ≠ D := by rcases at8 with e | e <;> omega
          clear o8 gr8 at8 lt8 mv8
          refine hK.out _ _ ?_ (fun hHeld => ?_)
          · exact ⟨p0, p1⟩
          clear hK K
          try simp only [List.getElem_toArray, List.getElem_cons_succ, List.getElem_cons_zero, Act.put, List.setIfInBounds_toArray, List.set_cons_zero, List.set_cons_succ]
          refine wpAnyH_take (i := 12) (v := ?_) rfl (by kernel_rfl) (by kernel_rfl) (by kernel_rfl) (fun _ _ _ h => h) (Or.inl ⟨by rfl, ?_⟩) (by assumption) ?_
          rotate_left
          · (intro w hSw; (try dsimp only at hSw); first | (go_simp; done) | (go_simp; with_reducible rfl))
          try simp only [List.getElem_toArray, List.getElem_cons_succ, List.getElem_cons_zero, Act.put, List.setIfInBounds_toArray, List.set_cons_zero, List.set_cons_succ]
          rw [← unhide hGo]
          exact goTo (N_2_5_9_10_11_13 X g5 c5 E T g8 c8 D u hbw p0 p1 hE zE yE hF zF yF hD0 hD1 hDf0 hDf1 zD yD nEF nED nFD) (by kernel_rfl) (by kernel_rfl) (by rw [unhide ha0]; kernel_rfl)
        have N_2_5_9_10 : ∀ (X g5 c5 E T : Nat) (v : World) (hbw : Hid (Below w3.heap.size w3 v)) (p0 : v.cell? ⟨w1.heap.size, 0, none⟩ = some (.int .i64 (m : Int))) (p1 : v.cell? ⟨w1.heap.size, 1, none⟩ = some (.slice a Lc.length cp)) (hO : Hid (v.ownsRow w3.heap.size 30 1 (.slice (some ⟨g5, 0, none⟩) Lc.length c5) Lc.length (scells Lc))) (zO : g5 < v.heap.size) (yO : w3.heap.size ≤ g5) (hE : Hid (Clz.Ok (⟨E, 1, [(m : Int) + 1]⟩ : Clz) v 0)) (zE : E < v.heap.size) (yE : w3.heap.size ≤ E) (hT : v.cell? ⟨T, 0, none⟩ = some (.slice (some ⟨E, 0, none⟩) 1 1)) (zT : T < v.heap.size) (yT : w3.heap.size ≤ T) (nOE : g5 ≠ E) (nOT : g5 ≠ T) (nET : E ≠ T), Go 4 #[true, true, true, true, true, true, true, true, true, true, true, false, false, false, false] ((((a0.put (some 56) (.slice (some ⟨X, 0, none⟩) 0 0)).put (some 59) (.slice (some ⟨g5, 0, none⟩) Lc.length c5)).put (some 63) (.slice (some ⟨E, 0, none⟩) 1 1)).put (some 64) (.slice (some ⟨T, 0, none⟩) 1 1)) v := by
          intro X g5 c5 E T v hbw p0 p1 hO zO yO hE zE yE hT zT yT nOE nOT nET
          rw [unhide hGo, unhide ha0]
          try simp only [List.getElem_toArray, List.getElem_cons_succ, List.getElem_cons_zero, Act.put, List.setIfInBounds_toArray, List.set_cons_zero, List.set_cons_succ]
          have hHeld : v.cell? ⟨w1.heap.size, 0, none⟩ = some (.int .i64 (m : Int)) ∧ v.cell? ⟨w1.heap.size, 1, none⟩ = some (.slice a Lc.length cp) := ⟨p0, p1⟩
          refine wpAnyH_ready (rs := [11, 13]) (by kernel_rfl) (by simp) ?_
          refine AllReadyH.cons rfl (fun K hK => ?_) (AllReadyH.cons rfl (fun K hK => ?_) AllReadyH.nil)
          · apply step_clz_one (Ls := Lc) (q := (⟨E, 1, [(m : Int) + 1]⟩ : Clz)) (base := w3.heap.size)
            case hgd => rfl
            case ho => rfl
            case hty => rfl
            case hs => rfl
            case hown => exact unhide hO
            case hbase => exact (unhide hbw).size
            case hx => rfl
            case hT => exact hT
            case hl => omega
            case' h => intro g8 c8 u o8 gr8 at8 lt8
            have mv8 : Mov g5 _ u := mov_of_grown gr8
            have hE := hide ((unhide hE).grown (grown_mov mv8) (by simp only [ne_eq, Option.some.injEq]; omega))
            have zE : E < u.heap.size := Nat.lt_of_lt_of_le zE mv8.size
            have p0 := mv8.cell p0 (by simp only; omega)
            have p1 := mv8.cell p1 (by simp only; omega)
            have hbw := hide ((unhide hbw).trans (mv8.below yO (unhide hbw).size))
            have hF := hide o8
            have zF := lt8
            have yF : w3.heap.size ≤ g8 := own_base o8
            have nEF : E ≠ g8 := by rcases at8 with e | e <;> omega
            clear o8 gr8 at8 lt8 mv8
            refine hK.out _ _ ?_ (fun hHeld => ?_)
            · exact ⟨p0, p1⟩
            clear hK K
            try simp only [List.getElem_toArray, List.getElem_cons_succ, List.getElem_cons_zero, Act.put, List.setIfInBounds_toArray, List.set_cons_zero, List.set_cons_succ]
            refine wpAnyH_take (i := 12) (v := ?_) rfl (by kernel_rfl) (by kernel_rfl) (by kernel_rfl) (fun _ _ _ h => h) (Or.inl ⟨by rfl, ?_⟩) (by assumption) ?_
            rotate_left
            · (intro w hSw; (try dsimp only at hSw); first | (go_simp; done) | (go_simp; with_reducible rfl))
            try simp only [List.getElem_toArray, List.getElem_cons_succ, List.getElem_cons_zero, Act.put, List.setIfInBounds_toArray, List.set_cons_zero, List.set_cons_succ]
            rw [← unhide hGo]
            exact goTo (N_2_5_9_10_11 X g5 c5 E T g8 c8 u hbw p0 p1 hE zE yE hF zF yF nEF) (by kernel_rfl) (by kernel_rfl) (by rw [unhide ha0]; kernel_rfl)
          · go_simp
            obtain ⟨u, hu⟩ : ∃ z, z = v.alloc (.cells #[.int .i64 0, .slice none 0 0] 25) := ⟨_, rfl⟩
            have b : Below v.heap.size v u := by rw [hu]; exact (Below.refl _ _).alloc (Nat.le_refl _) _
            have eu : v.heap.size < u.heap.size := by rw [hu]; simp
            have fu : w3.heap.size ≤ v.heap.size := (unhide hbw).size
            have hO := hide (World.ownsRow.kept (w' := u) (unhide hO) (grown_below b) (by simp [Value.ownBlock]))
            have zO : g5 < u.heap.size := Nat.lt_of_lt_of_le zO b.size
            have hE := hide ((unhide hE).later b)
            have zE : E < u.heap.size := Nat.lt_of_lt_of_le zE b.size
            have hT := cell_later b hT
            have zT : T < u.heap.size := Nat.lt_of_lt_of_le zT b.size
            have hbw := hide ((unhide hbw).trans (b.mono (unhide hbw).size))
            have p0 := cell_later b p0
            have p1 := cell_later b p1
            have hD0 : u.cell? ⟨v.heap.size, 0, none⟩ = some (.int .i64 0) := by rw [hu]; simp [go_sem]
            have hD1 : u.cell? ⟨v.heap.size, 1, none⟩ = some (.slice none 0 0) := by rw [hu]; simp [go_sem]
            have hDf0 : u.frozen? ⟨v.heap.size, 0, none⟩ = false := by rw [hu]; simp [go_sem]
            have hDf1 : u.frozen? ⟨v.heap.size, 1, none⟩ = false := by rw [hu]; simp [go_sem]
            have nOD : g5 ≠ v.heap.size := by omega
            have nED : E ≠ v.heap.size := by omega
            have nTD : T ≠ v.heap.size := by omega
            rw [← hu]
            obtain ⟨D, hDe⟩ : ∃ z, z = v.heap.size := ⟨_, rfl⟩
            rw [← hDe] at hD0 hD1 hDf0 hDf1 nOD nED nTD ⊢
            have zD : D < u.heap.size := by omega
            have yD : w3.heap.size ≤ D := by omega
            clear hu b eu fu hDe
            refine hK.out _ _ ?_ (fun hHeld => ?_)
            · exact ⟨p0, p1⟩
            clear hK K
            try simp only [List.getElem_toArray, List.getElem_cons_succ, List.getElem_cons_zero, Act.put, List.setIfInBounds_toArray, List.set_cons_zero, List.set_cons_succ]
            rw [← unhide hGo]
            exact goTo (N_2_5_9_10_13 X g5 c5 E T D u hbw p0 p1 hO zO yO hE zE yE hT zT yT hD0 hD1 hDf0 hDf1 zD yD nOE nOT nOD nET nED nTD) (by kernel_rfl) (by kernel_rfl) (by rw [unhide ha0]; kernel_rfl)
        have N_2_5_9_13 : ∀ (X g5 c5 E D : Nat) (v : World) (hbw : Hid (Below w3.heap.size w3 v)) (p0 : v.cell? ⟨w1.heap.size, 0, none⟩ = some (.int .i64 (m : Int))) (p1 : v.cell? ⟨w1.heap.size, 1, none⟩ = some (.slice a Lc.length cp)) (hO : Hid (v.ownsRow w3.heap.size 30 1 (.slice (some ⟨g5, 0, none⟩) Lc.length c5) Lc.length (scells Lc))) (zO : g5 < v.heap.size) (yO : w3.heap.size ≤ g5) (hE : Hid (Clz.Ok (⟨E, 1, [(m : Int) + 1]⟩ : Clz) v 0)) (zE : E < v.heap.size) (yE : w3.heap.size ≤ E) (hD0 : v.cell? ⟨D, 0, none⟩ = some (.int .i64 0)) (hD1 : v.cell? ⟨D, 1, none⟩ = some (.slice none 0 0)) (hDf0 : v.frozen? ⟨D, 0, none⟩ = false) (hDf1 : v.frozen? ⟨D, 1, none⟩ = false) (zD : D < v.heap.size) (yD : w3.heap.size ≤ D) (nOE : g5 ≠ E) (nOD : g5 ≠ D) (nED : E ≠ D), Go 4 #[true, true, true, true, true, true, true, true, true, true, false, false, false, true, false] ((((a0.put (some 56) (.slice (some ⟨X, 0, none⟩) 0 0)).put (some 59) (.slice (some ⟨g5, 0, none⟩) Lc.length c5)).put (some 63) (.slice (some ⟨E, 0, none⟩) 1 1)).put (some 5) (.pointer (some ⟨D, 0, none⟩))) v := by
          intro X g5 c5 E D v hbw p0 p1 hO zO yO hE zE yE hD0 hD1 hDf0 hDf1 zD yD nOE nOD nED
          rw [unhide hGo, unhide ha0]
          try simp only [List.getElem_toArray, List.getElem_cons_succ, List.getElem_cons_zero, Act.put, List.setIfInBounds_toArray, List.set_cons_zero, List.set_cons_succ]
          have hHeld : v.cell? ⟨w1.heap.size, 0, none⟩ = some (.int .i64 (m : Int)) ∧ v.cell? ⟨w1.heap.size, 1, none⟩ = some (.slice a Lc.length cp) := ⟨p0, p1⟩
          refine wpAnyH_ready (rs := [10]) (by kernel_rfl) (by simp) ?_
          refine AllReadyH.cons rfl (fun K hK => ?_) AllReadyH.nil
          go_simp
          obtain ⟨u, hu⟩ : ∃ z, z = v.alloc (.cells #[.slice (some ⟨E, 0, none⟩) 1 1] 30) := ⟨_, rfl⟩
          have b : Below v.heap.size v u := by rw [hu]; exact (Below.refl _ _).alloc (Nat.le_refl _) _
          have eu : v.heap.size < u.heap.size := by rw [hu]; simp
          have fu : w3.heap.size ≤ v.heap.size := (unhide hbw).size
          have hO := hide (World.ownsRow.kept (w' := u) (unhide hO) (grown_below b) (by simp [Value.ownBlock]))
          have zO : g5 < u.heap.size := Nat.lt_of_lt_of_le zO b.size
          have hE := hide ((unhide hE).later b)
          have zE : E < u.heap.size := Nat.lt_of_lt_of_le zE b.size
          have hD0 := cell_later b hD0
          have hD1 := cell_later b hD1
          have hDf0 := (b.frozen (p := ⟨D, 0, none⟩) zD).trans hDf0
          have hDf1 := (b.frozen (p := ⟨D, 1, none⟩) zD).trans hDf1
          have zD : D < u.heap.size := Nat.lt_of_lt_of_le zD b.size
          have hbw := hide ((unhide hbw).trans (b.mono (unhide hbw).size))
          have p0 := cell_later b p0
          have p1 := cell_later b p1
          have hT : u.cell? ⟨v.heap.size, 0, none⟩ = some (.slice (some ⟨E, 0, none⟩) 1 1) := by rw [hu]; simp [go_sem]
          have nOT : g5 ≠ v.heap.size := by omega
          have nET : E ≠ v.heap.size := by omega
          have nTD : v.heap.size ≠ D := by omega
          rw [← hu]
          obtain ⟨T, hTe⟩ : ∃ z, z = v.heap.size := ⟨_, rfl⟩
          rw [← hTe] at hT nOT nET nTD ⊢
          have zT : T < u.heap.size := by omega
          have yT : w3.heap.size ≤ T := by omega
          clear hu b eu fu hTe
          refine hK.out _ _ ?_ (fun hHeld => ?_)
          · exact ⟨p0, p1⟩
          clear hK K
          try simp only [List.getElem_toArray, List.getElem_cons_succ, List.getElem_cons_zero, Act.put, List.setIfInBounds_toArray, List.set_cons_zero, List.set_cons_succ]
          rw [← unhide hGo]
          exact goTo (N_2_5_9_10_13 X g5 c5 E T D u hbw p0 p1 hO zO yO hE zE yE hT zT yT hD0 hD1 hDf0 hDf1 zD yD nOE nOT nOD nET nED nTD) (by kernel_rfl) (by kernel_rfl) (by rw [unhide ha0]; kernel_rfl)
        have N_2_9_10_13 : ∀ (X E T D : Nat) (v : World) (hbw : Hid (Below w3.heap.size w3 v)) (p0 : v.cell? ⟨w1.heap.size, 0, none⟩ = some (.int .i64 (m : Int))) (p1 : v.cell? ⟨w1.heap.size, 1, none⟩ = some (.slice a Lc.length cp)) (hX : Hid (v.heap[X]? = some (.cells #[] 30 (0, 0)))) (zX : X < v.heap.size) (yX : w3.heap.size ≤ X) (hE : Hid (Clz.Ok (⟨E, 1, [(m : Int) + 1]⟩ : Clz) v 0)) (zE : E < v.heap.size) (yE : w3.heap.size ≤ E) (hT : v.cell? ⟨T, 0, none⟩ = some (.slice (some ⟨E, 0, none⟩) 1 1)) (zT : T < v.heap.size) (yT : w3.heap.size ≤ T) (hD0 : v.cell? ⟨D, 0, none⟩ = some (.int .i64 0)) (hD1 : v.cell? ⟨D, 1, none⟩ = some (.slice none 0 0)) (hDf0 : v.frozen? ⟨D, 0, none⟩ = false) (hDf1 : v.frozen? ⟨D, 1, none⟩ = false) (zD : D < v.heap.size) (yD : w3.heap.size ≤ D) (nXE : X ≠ E) (nXT : X ≠ T) (nXD : X ≠ D) (nET : E ≠ T) (nED : E ≠ D) (nTD : T ≠ D), Go 4 #[true, true, true, true, true, false, true, true, true, true, true, false, false, true, false] ((((a0.put (some 56) (.slice (some ⟨X, 0, none⟩) 0 0)).put (some 63) (.slice (some ⟨E, 0, none⟩) 1 1)).put (some 64) (.slice (some ⟨T, 0, none⟩) 1 1)).put (some 5) (.pointer (some ⟨D, 0, none⟩))) v := by
          intro X E T D v hbw p0 p1 hX zX yX hE zE yE hT zT yT hD0 hD1 hDf0 hDf1 zD yD nXE nXT nXD nET nED nTD
          rw [unhide hGo, unhide ha0]
          try simp only [List.getElem_toArray, List.getElem_cons_succ, List.getElem_cons_zero, Act.put, List.setIfInBounds_toArray, List.set_cons_zero, List.set_cons_succ]
          have hHeld : v.cell? ⟨w1.heap.size, 0, none⟩ = some (.int .i64 (m : Int)) ∧ v.cell? ⟨w1.heap.size, 1, none⟩ = some (.slice a Lc.length cp) := ⟨p0, p1⟩
          refine wpAnyH_ready (rs := [5]) (by kernel_rfl) (by simp) ?_
          refine AllReadyH.cons rfl (fun K hK => ?_) AllReadyH.nil
          apply step_clz_copy (R := 0) (Ls := Lc) (base := w3.heap.size)
          case hgd => rfl
          case ho => rfl
          case hty => rfl
          case hs => rfl
          case hX => exact unhide hX
          case hbX => exact yX
          case hbase => exact (unhide hbw).size
          case hx => rfl
          case hc => exact (unhide HC0).later (unhide hbw)
          case hl => omega
          case' h => intro g5 c5 u o5 gr5 at5 lt5
          have mv5 : Mov X _ u := mov_of_grown gr5
          have hE := hide ((unhide hE).grown (grown_mov mv5) (by simp only [ne_eq, Option.some.injEq]; omega))
          have zE : E < u.heap.size := Nat.lt_of_lt_of_le zE mv5.size
          have hT := mv5.cell hT (by simp only; omega)
          have zT : T < u.heap.size := Nat.lt_of_lt_of_le zT mv5.size
          have hD0 := mv5.cell hD0 (by simp only; omega)
          have hD1 := mv5.cell hD1 (by simp only; omega)
          have hDf0 := (World.frozen?_of_block (w := v) (a := ⟨D, 0, none⟩) (mv5.2.2.2.2 D zD (by omega))).trans hDf0
          have hDf1 := (World.frozen?_of_block (w := v) (a := ⟨D, 1, none⟩) (mv5.2.2.2.2 D zD (by omega))).trans hDf1
          have zD : D < u.heap.size := Nat.lt_of_lt_of_le zD mv5.size
          have p0 := mv5.cell p0 (by simp only; omega)
          have p1 := mv5.cell p1 (by simp only; omega)
          have hbw := hide ((unhide hbw).trans (mv5.below yX (unhide hbw).size))
          have hO := hide o5
          have zO := lt5
          have yO : w3.heap.size ≤ g5 := own_base o5
          have nOE : g5 ≠ E := by rcases at5 with e | e <;> omega
          have nOT : g5 ≠ T := by rcases at5 with e | e <;> omega
          have nOD : g5 ≠ D := by rcases at5 with e | e <;> omega
          clear o5 gr5 at5 lt5 mv5
          refine hK.out _ _ ?_ (fun hHeld => ?_)
          · exact ⟨p0, p1⟩
          clear hK K
          try simp only [List.getElem_toArray, List.getElem_cons_succ, List.getElem_cons_zero, Act.put, List.setIfInBounds_toArray, List.set_cons_zero, List.set_cons_succ]
          rw [← unhide hGo]
          exact goTo (N_2_5_9_10_13 X g5 c5 E T D u hbw p0 p1 hO zO yO hE zE yE hT zT yT hD0 hD1 hDf0 hDf1 zD yD nOE nOT nOD nET nED nTD) (by kernel_rfl) (by kernel_rfl) (by rw [unhide ha0]; kernel_rfl)
        have N_2_5_9 : ∀ (X g5 c5 E : Nat) (v : World) (hbw : Hid (Below w3.heap.size w3 v)) (p0 : v.cell? ⟨w1.heap.size, 0, none⟩ = some (.int .i64 (m : Int))) (p1 : v.cell? ⟨w1.heap.size, 1, none⟩ = some (.slice a Lc.length cp)) (hO : Hid (v.ownsRow w3.heap.size 30 1 (.slice (some ⟨g5, 0, none⟩) Lc.length c5) Lc.length (scells Lc))) (zO : g5 < v.heap.size) (yO : w3.heap.size ≤ g5) (hE : Hid (Clz.Ok (⟨E, 1, [(m : Int) + 1]⟩ : Clz) v 0)) (zE : E < v.heap.size) (yE : w3.heap.size ≤ E) (nOE : g5 ≠ E), Go 5 #[true, true, true, true, true, true, true, true, true, true, false, false, false, false, false] (((a0.put (some 56) (.slice (some ⟨X, 0, none⟩) 0 0)).put (some 59) (.slice (some ⟨g5, 0, none⟩) Lc.length c5)).put (some 63) (.slice (some ⟨E, 0, none⟩) 1 1)) v := by
          intro X g5 c5 E v hbw p0 p1 hO zO yO hE zE yE nOE
          rw [unhide hGo, unhide ha0]
          try simp only [List.getElem_toArray, List.getElem_cons_succ, List.getElem_cons_zero, Act.put, List.setIfInBounds_toArray, List.set_cons_zero, List.set_cons_succ]
          have hHeld : v.cell? ⟨w1.heap.size, 0, none⟩ = some (.int .i64 (m : Int)) ∧ v.cell? ⟨w1.heap.size, 1, none⟩ = some (.slice a Lc.length cp) := ⟨p0, p1⟩
          refine wpAnyH_ready (rs := [10, 13]) (by kernel_rfl) (by simp) ?_
          refine AllReadyH.cons rfl (fun K hK => ?_) (AllReadyH.cons rfl (fun K hK => ?_) AllReadyH.nil)
          · go_simp
            obtain ⟨u, hu⟩ : ∃ z, z = v.alloc (.cells #[.slice (some ⟨E, 0, none⟩) 1 1] 30) := ⟨_, rfl⟩
            have b : Below v.heap.size v u := by rw [hu]; exact (Below.refl _ _).alloc (Nat.le_refl _) _
            have eu : v.heap.size < u.heap.size := by rw [hu]; simp
            have fu : w3.heap.size ≤ v.heap.size := (unhide hbw).size
            have hO := hide (World.ownsRow.kept (w' := u) (unhide hO) (grown_below b) (by simp [Value.ownBlock]))
            have zO : g5 < u.heap.size := Nat.lt_of_lt_of_le zO b.size
            have hE := hide ((unhide hE).later b)
            have zE : E < u.heap.size := Nat.lt_of_lt_of_le zE b.size
            have hbw := hide ((unhide hbw).trans (b.mono (unhide hbw).size))
            have p0 := cell_later b p0
            have p1 := cell_later b p1
            have hT : u.cell? ⟨v.heap.size, 0, none⟩ = some (.slice (some ⟨E, 0, none⟩) 1 1) := by rw [hu]; simp [go_sem]
            have nOT : g5 ≠ v.heap.size := by omega
            have nET : E ≠ v.heap.size := by omega
            rw [← hu]
            obtain ⟨T, hTe⟩ : ∃ z, z = v.heap.size := ⟨_, rfl⟩
            rw [← hTe] at hT nOT nET ⊢
            have zT : T < u.heap.size := by omega
            have yT : w3.heap.size ≤ T := by omega
            clear hu b eu fu hTe
            refine hK.out _ _ ?_ (fun hHeld => ?_)
            · exact ⟨p0, p1⟩
            clear hK K
            try simp only [List.getElem_toArray, List.getElem_cons_succ, List.getElem_cons_zero, Act.put, List.setIfInBounds_toArray, List.set_cons_zero, List.set_cons_succ]
            rw [← unhide hGo]
            exact goTo (N_2_5_9_10 X g5 c5 E T u hbw p0 p1 hO zO yO hE zE yE hT zT yT nOE nOT nET) (by kernel_rfl) (by kernel_rfl) (by rw [unhide ha0]; kernel_rfl)
          · go_simp
            obtain ⟨u, hu⟩ : ∃ z, z = v.alloc (.cells #[.int .i64 0, .slice none 0 0] 25) := ⟨_, rfl⟩
            have b : Below v.heap.size v u := by rw [hu]; exact (Below.refl _ _).alloc (Nat.le_refl _) _
            have eu : v.heap.size < u.heap.size := by rw [hu]; simp
            have fu : w3.heap.size ≤ v.heap.size := (unhide hbw).size
            have hO := hide (World.ownsRow.kept (w' := u) (unhide hO) (grown_below b) (by simp [Value.ownBlock]))
            have zO : g5 < u.heap.size := Nat.lt_of_lt_of_le zO b.size
            have hE := hide ((unhide hE).later b)
            have zE : E < u.heap.size := Nat.lt_of_lt_of_le zE b.size
            have hbw := hide ((unhide hbw).trans (b.mono (unhide hbw).size))
            have p0 := cell_later b p0
            have p1 := cell_later b p1
            have hD0 : u.cell? ⟨v.heap.size, 0, none⟩ = some (.int .i64 0) := by rw [hu]; simp [go_sem]
            have hD1 : u.cell? ⟨v.heap.size, 1, none⟩ = some (.slice none 0 0) := by rw [hu]; simp [go_sem]
            have hDf0 : u.frozen? ⟨v.heap.size, 0, none⟩ = false := by rw [hu]; simp [go_sem]
            have hDf1 : u.frozen? ⟨v.heap.size, 1, none⟩ = false := by rw [hu]; simp [go_sem]
            have nOD : g5 ≠ v.heap.size := by omega
            have nED : E ≠ v.heap.size := by omega
            rw [← hu]
            obtain ⟨D, hDe⟩ : ∃ z, z = v.heap.size := ⟨_, rfl⟩
            rw [← hDe] at hD0 hD1 hDf0 hDf1 nOD nED ⊢
            have zD : D < u.heap.size := by omega
            have yD : w3.heap.size ≤ D := by omega
            clear hu b eu fu hDe
            refine hK.out _ _ ?_ (fun hHeld => ?_)
            · exact ⟨p0, p1⟩
            clear hK K
            try simp only [List.getElem_toArray, List.getElem_cons_succ, List.getElem_cons_zero, Act.put, List.setIfInBounds_toArray, List.set_cons_zero, List.set_cons_succ]
            rw [← unhide hGo]
            exact goTo (N_2_5_9_13 X g5 c5 E D u hbw p0 p1 hO zO yO hE zE yE hD0 hD1 hDf0 hDf1 zD yD nOE nOD nED) (by kernel_rfl) (by kernel_rfl) (by rw [unhide ha0]; kernel_rfl)
        have N_2_5_13 : ∀ (X g5 c5 D : Nat) (v : World) (hbw : Hid (Below w3.heap.size w3 v)) (p0 : v.cell? ⟨w1.heap.size, 0, none⟩ = some (.int .i64 (m : Int))) (p1 : v.cell? ⟨w1.heap.size, 1, none⟩ = some (.slice a Lc.length cp)) (hO : Hid (v.ownsRow w3.heap.size 30 1 (.slice (some ⟨g5, 0, none⟩) Lc.length c5) Lc.length (scells Lc))) (zO : g5 < v.heap.size) (yO : w3.heap.size ≤ g5) (hD0 : v.cell? ⟨D, 0, none⟩ = some (.int .i64 0)) (hD1 : v.cell? ⟨D, 1, none⟩ = some (.slice none 0 0)) (hDf0 : v.frozen? ⟨D, 0, none⟩ = false) (hDf1 : v.frozen? ⟨D, 1, none⟩ = false) (zD : D < v.heap.size) (yD : w3.heap.size ≤ D) (nOD : g5 ≠ D), Go 5 #[true, true, true, true, true, true, true, true, true, false, false, false, false, true, false] (((a0.put (some 56) (.slice (some ⟨X, 0, none⟩) 0 0)).put (some 59) (.slice (some ⟨g5, 0, none⟩) Lc.length c5)).put (some 5) (.pointer (some ⟨D, 0, none⟩))) v := by
          intro X g5 c5 D v hbw p0 p1 hO zO yO hD0 hD1 hDf0 hDf1 zD yD nOD
          rw [unhide hGo, unhide ha0]
          try simp only [List.getElem_toArray, List.getElem_cons_succ, List.getElem_cons_zero, Act.put, List.setIfInBounds_toArray, List.set_cons_zero, List.set_cons_succ]
          have hHeld : v.cell? ⟨w1.heap.size, 0, none⟩ = some (.int .i64 (m : Int)) ∧ v.cell? ⟨w1.heap.size, 1, none⟩ = some (.slice a Lc.length cp) := ⟨p0, p1⟩
          refine wpAnyH_ready (rs := [9]) (by kernel_rfl) (by simp) ?_
          refine AllReadyH.cons rfl (fun K hK => ?_) AllReadyH.nil
          go_simp
          obtain ⟨u, hu⟩ : ∃ z, z = v.alloc (.cells #[.int .i64 ((m : Int) + 1)] 3) := ⟨_, rfl⟩
          have b : Below v.heap.size v u := by rw [hu]; exact (Below.refl _ _).alloc (Nat.le_refl _) _
          have eu : v.heap.size < u.heap.size := by rw [hu]; simp
          have fu : w3.heap.size ≤ v.heap.size := (unhide hbw).size
          have hO := hide (World.ownsRow.kept (w' := u) (unhide hO) (grown_below b) (by simp [Value.ownBlock]))
          have zO : g5 < u.heap.size := Nat.lt_of_lt_of_le zO b.size
          have hD0 := cell_later b hD0
          have hD1 := cell_later b hD1
          have hDf0 := (b.frozen (p := ⟨D, 0, none⟩) zD).trans hDf0
          have hDf1 := (b.frozen (p := ⟨D, 1, none⟩) zD).trans hDf1
          have zD : D < u.heap.size := Nat.lt_of_lt_of_le zD b.size
          have hbw := hide ((unhide hbw).trans (b.mono (unhide hbw).size))
          have p0 := cell_later b p0
          have p1 := cell_later b p1
          have hE : Hid (Clz.Ok (⟨v.heap.size, 1, [(m : Int) + 1]⟩ : Clz) u 0) := by show Clz.Ok _ _ _; rw [hu]; exact clz_lit v 0 #[.int .i64 ((m : Int) + 1)] [(m : Int) + 1] rfl (by omega) (by simp) (unhide hLit)
          have nOE : g5 ≠ v.heap.size := by omega
          have nED : v.heap.size ≠ D := by omega
          rw [← hu]
          obtain ⟨E, hEe⟩ : ∃ z, z = v.heap.size := ⟨_, rfl⟩
          rw [← hEe] at hE nOE nED ⊢
          have zE : E < u.heap.size := by omega
          have yE : w3.heap.size ≤ E := by omega
          clear hu b eu fu hEe
          refine hK.out _ _ ?_ (fun hHeld => ?_)
          · exact ⟨p0, p1⟩
          clear hK K
          try simp only [List.getElem_toArray, List.getElem_cons_succ, List.getElem_cons_zero, Act.put, List.setIfInBounds_toArray, List.set_cons_zero, List.set_cons_succ]
          rw [← unhide hGo]
          exact goTo (N_2_5_9_13 X g5 c5 E D u hbw p0 p1 hO zO yO hE zE yE hD0 hD1 hDf0 hDf1 zD yD nOE nOD nED) (by kernel_rfl) (by kernel_rfl) (by rw [unhide ha0]; kernel_rfl)
        have N_2_9_10 : ∀ (X E T : Nat) (v : World) (hbw : Hid (Below w3.heap.size w3 v)) (p0 : v.cell? ⟨w1.heap.size, 0, none⟩ = some (.int .i64 (m : Int))) (p1 : v.cell? ⟨w1.heap.size, 1, none⟩ = some (.slice a Lc.length cp)) (hX : Hid (v.heap[X]? = some (.cells #[] 30 (0, 0)))) (zX : X < v.heap.size) (yX : w3.heap.size ≤ X) (hE : Hid (Clz.Ok (⟨E, 1, [(m : Int) + 1]⟩ : Clz) v 0)) (zE : E < v.heap.size) (yE : w3.heap.size ≤ E) (hT : v.cell? ⟨T, 0, none⟩ = some (.slice (some ⟨E, 0, none⟩) 1 1)) (zT : T < v.heap.size) (yT : w3.heap.size ≤ T) (nXE : X ≠ E) (nXT : X ≠ T) (nET : E ≠ T), Go 5 #[true, true, true, true, true, false, true, true, true, true, true, false, false, false, false] (((a0.put (some 56) (.slice (some ⟨X, 0, none⟩) 0 0)).put (some 63) (.slice (some ⟨E, 0, none⟩) 1 1)).put (some 64) (.slice (some ⟨T, 0, none⟩) 1 1)) v := by
          intro X E T v hbw p0 p1 hX zX yX hE zE yE hT zT yT nXE nXT nET
          rw [unhide hGo, unhide ha0]
          try simp only [List.getElem_toArray, List.getElem_cons_succ, List.getElem_cons_zero, Act.put, List.setIfInBounds_toArray, List.set_cons_zero, List.set_cons_succ]
          have hHeld : v.cell? ⟨w1.heap.size, 0, none⟩ = some (.int .i64 (m : Int)) ∧ v.cell? ⟨w1.heap.size, 1, none⟩ = some (.slice a Lc.length cp) := ⟨p0, p1⟩
          refine wpAnyH_ready (rs := [5, 13]) (by kernel_rfl) (by simp) ?_
          refine AllReadyH.cons rfl (fun K hK => ?_) (AllReadyH.cons rfl (fun K hK => ?_) AllReadyH.nil)
          · apply step_clz_copy (R := 0) (Ls := Lc) (base := w3.heap.size)
            case hgd => rfl
            case ho => rfl
            case hty => rfl
            case hs => rfl
            case hX => exact unhide hX
            case hbX => exact yX
            case hbase => exact (unhide hbw).size
            case hx => rfl
            case hc => exact (unhide HC0).later (unhide hbw)
            case hl => omega
            case' h => intro g5 c5 u o5 gr5 at5 lt5
            have mv5 : Mov X _ u := mov_of_grown gr5
            have hE := hide ((unhide hE).grown (grown_mov mv5) (by simp only [ne_eq, Option.some.injEq]; omega))
            have zE : E < u.heap.size := Nat.lt_of_lt_of_le zE mv5.size
            have hT := mv5.cell hT (by simp only; omega)
            have zT : T < u.heap.size := Nat.lt_of_lt_of_le zT mv5.size
            have p0 := mv5.cell p0 (by simp only; omega)
            have p1 := mv5.cell p1 (by simp only; omega)
            have hbw := hide ((unhide hbw).trans (mv5.below yX (unhide hbw).size))
            have hO := hide o5
            have zO := lt5
            have yO : w3.heap.size ≤ g5 := own_base o5
            have nOE : g5 ≠ E := by rcases at5 with e | e <;> omega
            have nOT : g5 ≠ T := by rcases at5 with e | e <;> omega
            clear o5 gr5 at5 lt5 mv5
            refine hK.out _ _ ?_ (fun hHeld => ?_)
            · exact ⟨p0, p1⟩
            clear hK K
            try simp only [List.getElem_toArray, List.getElem_cons_succ, List.getElem_cons_zero, Act.put, List.setIfInBounds_toArray, List.set_cons_zero, List.set_cons_succ]
            rw [← unhide hGo]
            exact goTo (N_2_5_9_10 X g5 c5 E T u hbw p0 p1 hO zO yO hE zE yE hT zT yT nOE nOT nET) (by kernel_rfl) (by kernel_rfl) (by rw [unhide ha0]; kernel_rfl)
          · go_simp
            obtain ⟨u, hu⟩ : ∃ z, z = v.alloc (.cells #[.int .i64 0, .slice none 0 0] 25) := ⟨_, rfl⟩
            have b : Below v.heap.size v u := by rw [hu]; exact (Below.refl _ _).alloc (Nat.le_refl _) _
            have eu : v.heap.size < u.heap.size := by rw [hu]; simp
            have fu : w3.heap.size ≤ v.heap.size := (unhide hbw).size
            have hX : Hid (u.heap[X]? = some (.cells #[] 30 (0, 0))) := (b.block _ (by omega)).trans (unhide hX)
            have zX : X < u.heap.size := Nat.lt_of_lt_of_le zX b.size
            have hE := hide ((unhide hE).later b)
            have zE : E < u.heap.size := Nat.lt_of_lt_of_le zE b.size
            have hT := cell_later b hT
            have zT : T < u.heap.size := Nat.lt_of_lt_of_le zT b.size
            have hbw := hide ((unhide hbw).trans (b.mono (unhide hbw).size))
            have p0 := cell_later b p0
            have p1 := cell_later b p1
            have hD0 : u.cell? ⟨v.heap.size, 0, none⟩ = some (.int .i64 0) := by rw [hu]; simp [go_sem]
            have hD1 : u.cell? ⟨v.heap.size, 1, none⟩ = some (.slice none 0 0) := by rw [hu]; simp [go_sem]
            have hDf0 : u.frozen? ⟨v.heap.size, 0, none⟩ = false := by rw [hu]; simp [go_sem]
            have hDf1 : u.frozen? ⟨v.heap.size, 1, none⟩ = false := by rw [hu]; simp [go_sem]
            have nXD : X ≠ v.heap.size := by omega
            have nED : E ≠ v.heap.size := by omega
            have nTD : T ≠ v.heap.size := by omega
            rw [← hu]
            obtain ⟨D, hDe⟩ : ∃ z, z = v.heap.size := ⟨_, rfl⟩
            rw [← hDe] at hD0 hD1 hDf0 hDf1 nXD nED nTD ⊢
            have zD : D < u.heap.size := by omega
            have yD : w3.heap.size ≤ D := by omega
            clear hu b eu fu hDe
            refine hK.out _ _ ?_ (fun hHeld => ?_)
            · exact ⟨p0, p1⟩
            clear hK K
            try simp only [List.getElem_toArray, List.getElem_cons_succ, List.getElem_cons_zero, Act.put, List.setIfInBounds_toArray, List.set_cons_zero, List.set_cons_succ]
            rw [← unhide hGo]
            exact goTo (N_2_9_10_13 X E T D u hbw p0 p1 hX zX yX hE zE yE hT zT yT hD0 hD1 hDf0 hDf1 zD yD nXE nXT nXD nET nED nTD) (by kernel_rfl) (by kernel_rfl) (by rw [unhide ha0]; kernel_rfl)
        have N_2_9_13 : ∀ (X E D : Nat) (v : World) (hbw : Hid (Below w3.heap.size w3 v)) (p0 : v.cell? ⟨w1.heap.size, 0, none⟩ = some (.int .i64 (m : Int))) (p1 : v.cell? ⟨w1.heap.size, 1, none⟩ = some (.slice a Lc.length cp)) (hX : Hid (v.heap[X]? = some (.cells #[] 30 (0, 0)))) (zX : X < v.heap.size) (yX : w3.heap.size ≤ X) (hE : Hid (Clz.Ok (⟨E, 1, [(m : Int) + 1]⟩ : Clz) v 0)) (zE : E < v.heap.size) (yE : w3.heap.size ≤ E) (hD0 : v.cell? ⟨D, 0, none⟩ = some (.int .i64 0)) (hD1 : v.cell? ⟨D, 1, none⟩ = some (.slice none 0 0)) (hDf0 : v.frozen? ⟨D, 0, none⟩ = false) (hDf1 : v.frozen? ⟨D, 1, none⟩ = false) (zD : D < v.heap.size) (yD : w3.heap.size ≤ D) (nXE : X ≠ E) (nXD : X ≠ D) (nED : E ≠ D), Go 5 #[true, true, true, true, true, false, true, true, true, true, false, false, false, true, false] (((a0.put (some 56) (.slice (some ⟨X, 0, none⟩) 0 0)).put (some 63) (.slice (some ⟨E, 0, none⟩) 1 1)).put (some 5) (.pointer (some ⟨D, 0, none⟩))) v := by
          intro X E D v hbw p0 p1 hX zX yX hE zE yE hD0 hD1 hDf0 hDf1 zD yD nXE nXD nED
          rw [unhide hGo, unhide ha0]
          try simp only [List.getElem_toArray, List.getElem_cons_succ, List.getElem_cons_zero, Act.put, List.setIfInBounds_toArray, List.set_cons_zero, List.set_cons_succ]
          have hHeld : v.cell? ⟨w1.heap.size, 0, none⟩ = some (.int .i64 (m : Int)) ∧ v.cell? ⟨w1.heap.size, 1, none⟩ = some (.slice a Lc.length cp) := ⟨p0, p1⟩
          refine wpAnyH_ready (rs := [5, 10]) (by kernel_rfl) (by simp) ?_
          refine AllReadyH.cons rfl (fun K hK => ?_) (AllReadyH.cons rfl (fun K hK => ?_) AllReadyH.nil)
          · apply step_clz_copy (R := 0) (Ls := Lc) (base := w3.heap.size)
            case hgd => rfl
            case ho => rfl
            case hty => rfl
            case hs => rfl
            case hX => exact unhide hX
            case hbX => exact yX
            case hbase => exact (unhide hbw).size
            case hx => rfl
            case hc => exact (unhide HC0).later (unhide hbw)
            case hl => omega
            case' h => intro g5 c5 u o5 gr5 at5 lt5
            have mv5 : Mov X _ u := mov_of_grown gr5
            have hE := hide ((unhide hE).grown (grown_mov mv5) (by simp only [ne_eq, Option.some.injEq]; omega))
            have zE : E < u.heap.size := Nat.lt_of_lt_of_le zE mv5.size
            have hD0 := mv5.cell hD0 (by simp only; omega)
            have hD1 := mv5.cell hD1 (by simp only; omega)
            have hDf0 := (World.frozen?_of_block (w := v) (a := ⟨D, 0, none⟩) (mv5.2.2.2.2 D zD (by omega))).trans hDf0
            have hDf1 := (World.frozen?_of_block (w := v) (a := ⟨D, 1, none⟩) (mv5.2.2.2.2 D zD (by omega))).trans hDf1
            have zD : D < u.heap.size := Nat.lt_of_lt_of_le zD mv5.size
            have p0 := mv5.cell p0 (by simp only; omega)
            have p1 := mv5.cell p1 (by simp only; omega)
            have hbw := hide ((unhide hbw).trans (mv5.below yX (unhide hbw).size))
            have hO := hide o5
            have zO := lt5
            have yO : w3.heap.size ≤ g5 := own_base o5
            have nOE : g5 ≠ E := by rcases at5 with e | e <;> omega
            have nOD : g5 ≠ D := by rcases at5 with e | e <;> omega
            clear o5 gr5 at5 lt5 mv5
            refine hK.out _ _ ?_ (fun hHeld => ?_)
            · exact ⟨p0, p1⟩
            clear hK K
            try simp only [List.getElem_toArray, List.getElem_cons_succ, List.getElem_cons_zero, Act.put, List.setIfInBounds_toArray, List.set_cons_zero, List.set_cons_succ]
            rw [← unhide hGo]
            exact goTo (N_2_5_9_13 X g5 c5 E D u hbw p0 p1 hO zO yO hE zE yE hD0 hD1 hDf0 hDf1 zD yD nOE nOD nED) (by kernel_rfl) (by kernel_rfl) (by rw [unhide ha0]; kernel_rfl)
          · go_simp
            obtain ⟨u, hu⟩ : ∃ z, z = v.alloc (.cells #[.slice (some ⟨E, 0, none⟩) 1 1] 30) := ⟨_, rfl⟩
            have b : Below v.heap.size v u := by rw [hu]; exact (Below.refl _ _).alloc (Nat.le_refl _) _
            have eu : v.heap.size < u.heap.size := by rw [hu]; simp
            have fu : w3.heap.size ≤ v.heap.size := (unhide hbw).size
            have hX : Hid (u.heap[X]? = some (.cells #[] 30 (0, 0))) := (b.block _ (by omega)).trans (unhide hX)
            have zX : X < u.heap.size := Nat.lt_of_lt_of_le zX b.size
            have hE := hide ((unhide hE).later b)
            have zE : E < u.heap.size := Nat.lt_of_lt_of_le zE b.size
            have hD0 := cell_later b hD0
            have hD1 := cell_later b hD1
            have hDf0 := (b.frozen (p := ⟨D, 0, none⟩) zD).trans hDf0
            have hDf1 := (b.frozen (p := ⟨D, 1, none⟩) zD).trans hDf1
            have zD : D < u.heap.size := Nat.lt_of_lt_of_le zD b.size
            have hbw := hide ((unhide hbw).trans (b.mono (unhide hbw).size))
            have p0 := cell_later b p0
            have p1 := cell_later b p1
            have hT : u.cell? ⟨v.heap.size, 0, none⟩ = some (.slice (some ⟨E, 0, none⟩) 1 1) := by rw [hu]; simp [go_sem]
            have nXT : X ≠ v.heap.size := by omega
            have nET : E ≠ v.heap.size := by omega
            have nTD : v.heap.size ≠ D := by omega
            rw [← hu]
            obtain ⟨T, hTe⟩ : ∃ z, z = v.heap.size := ⟨_, rfl⟩
            rw [← hTe] at hT nXT nET nTD ⊢
            have zT : T < u.heap.size := by omega
            have yT : w3.heap.size ≤ T := by omega
            clear hu b eu fu hTe
            refine hK.out _ _ ?_ (fun hHeld => ?_)
            · exact ⟨p0, p1⟩
            clear hK K
            try simp only [List.getElem_toArray, List.getElem_cons_succ, List.getElem_cons_zero, Act.put, List.setIfInBounds_toArray, List.set_cons_zero, List.set_cons_succ]
            rw [← unhide hGo]
            exact goTo (N_2_9_10_13 X E T D u hbw p0 p1 hX zX yX hE zE yE hT zT yT hD0 hD1 hDf0 hDf1 zD yD nXE nXT nXD nET nED nTD) (by kernel_rfl) (by kernel_rfl) (by rw [unhide ha0]; kernel_rfl)
        have N_9_10_13 : ∀ (E T D : Nat) (v : World) (hbw : Hid (Below w3.heap.size w3 v)) (p0 : v.cell? ⟨w1.heap.size, 0, none⟩ = some (.int .i64 (m : Int))) (p1 : v.cell? ⟨w1.heap.size, 1, none⟩ = some (.slice a Lc.length cp)) (hE : Hid (Clz.Ok (⟨E, 1, [(m : Int) + 1]⟩ : Clz) v 0)) (zE : E < v.heap.size) (yE : w3.heap.size ≤ E) (hT : v.cell? ⟨T, 0, none⟩ = some (.slice (some ⟨E, 0, none⟩) 1 1)) (zT : T < v.heap.size) (yT : w3.heap.size ≤ T) (hD0 : v.cell? ⟨D, 0, none⟩ = some (.int .i64 0)) (hD1 : v.cell? ⟨D, 1, none⟩ = some (.slice none 0 0)) (hDf0 : v.frozen? ⟨D, 0, none⟩ = false) (hDf1 : v.frozen? ⟨D, 1, none⟩ = false) (zD : D < v.heap.size) (yD : w3.heap.size ≤ D) (nET : E ≠ T) (nED : E ≠ D) (nTD : T ≠ D), Go 5 #[true, true, false, true, true, false, true, true, true, true, true, false, false, true, false] (((a0.put (some 63) (.slice (some ⟨E, 0, none⟩) 1 1)).put (some 64) (.slice (some ⟨T, 0, none⟩) 1 1)).put (some 5) (.pointer (some ⟨D, 0, none⟩))) v := by
          intro E T D v hbw p0 p1 hE zE yE hT zT yT hD0 hD1 hDf0 hDf1 zD yD nET nED nTD
          rw [unhide hGo, unhide ha0]
          try simp only [List.getElem_toArray, List.getElem_cons_succ, List.getElem_cons_zero, Act.put, List.setIfInBounds_toArray, List.set_cons_zero, List.set_cons_succ]
          have hHeld : v.cell? ⟨w1.heap.size, 0, none⟩ = some (.int .i64 (m : Int)) ∧ v.cell? ⟨w1.heap.size, 1, none⟩ = some (.slice a Lc.length cp) := ⟨p0, p1⟩
          refine wpAnyH_ready (rs := [2]) (by kernel_rfl) (by simp) ?_
          refine AllReadyH.cons rfl (fun K hK => ?_) AllReadyH.nil
          go_simp
          obtain ⟨u, hu⟩ : ∃ z, z = v.alloc (.cells #[] 30) := ⟨_, rfl⟩
          have b : Below v.heap.size v u := by rw [hu]; exact (Below.refl _ _).alloc (Nat.le_refl _) _
          have eu : v.heap.size < u.heap.size := by rw [hu]; simp
          have fu : w3.heap.size ≤ v.heap.size := (unhide hbw).size
          have hE := hide ((unhide hE).later b)
          have zE : E < u.heap.size := Nat.lt_of_lt_of_le zE b.size
          have hT := cell_later b hT
          have zT : T < u.heap.size := Nat.lt_of_lt_of_le zT b.size
          have hD0 := cell_later b hD0
          have hD1 := cell_later b hD1
          have hDf0 := (b.frozen (p := ⟨D, 0, none⟩) zD).trans hDf0
          have hDf1 := (b.frozen (p := ⟨D, 1, none⟩) zD).trans hDf1
          have zD : D < u.heap.size := Nat.lt_of_lt_of_le zD b.size
          have hbw := hide ((unhide hbw).trans (b.mono (unhide hbw).size))
          have p0 := cell_later b p0
          have p1 := cell_later b p1
          have hX : Hid (u.heap[v.heap.size]? = some (.cells #[] 30 (0, 0))) := by show _ = _; rw [hu]; exact alloc_at rfl
          have nXE : v.heap.size ≠ E := by omega
          have nXT : v.heap.size ≠ T := by omega
          have nXD : v.heap.size ≠ D := by omega
          rw [← hu]
          obtain ⟨X, hXe⟩ : ∃ z, z = v.heap.size := ⟨_, rfl⟩
          rw [← hXe] at hX nXE nXT nXD ⊢
          have zX : X < u.heap.size := by omega
          have yX : w3.heap.size ≤ X := by omega
          clear hu b eu fu hXe
          refine hK.out _ _ ?_ (fun hHeld => ?_)
          · exact ⟨p0, p1⟩
          clear hK K
          try simp only [List.getElem_toArray, List.getElem_cons_succ, List.getElem_cons_zero, Act.put, List.setIfInBounds_toArray, List.set_cons_zero, List.set_cons_succ]
          rw [← unhide hGo]
          exact goTo (N_2_9_10_13 X E T D u hbw p0 p1 hX zX yX hE zE yE hT zT yT hD0 hD1 hDf0 hDf1 zD yD nXE nXT nXD nET nED nTD) (by kernel_rfl) (by kernel_rfl) (by rw [unhide ha0]; kernel_rfl)
        have N_2_5 : ∀ (X g5 c5 : Nat) (v : World) (hbw : Hid (Below w3.heap.size w3 v)) (p0 : v.cell? ⟨w1.heap.size, 0, none⟩ = some (.int .i64 (m : Int))) (p1 : v.cell? ⟨w1.heap.size, 1, none⟩ = some (.slice a Lc.length cp)) (hO : Hid (v.ownsRow w3.heap.size 30 1 (.slice (some ⟨g5, 0, none⟩) Lc.length c5) Lc.length (scells Lc))) (zO : g5 < v.heap.size) (yO : w3.heap.size ≤ g5), Go 6 #[true, true, true, true, true, true, true, true, true, false, false, false, false, false, false] ((a0.put (some 56) (.slice (some ⟨X, 0, none⟩) 0 0)).put (some 59) (.slice (some ⟨g5, 0, none⟩) Lc.length c5)) v := by
          intro X g5 c5 v hbw p0 p1 hO zO yO
          rw [unhide hGo, unhide ha0]
          try simp only [List.getElem_toArray, List.getElem_cons_succ, List.getElem_cons_zero, Act.put, List.setIfInBounds_toArray, List.set_cons_zero, List.set_cons_succ]
          have hHeld : v.cell? ⟨w1.heap.size, 0, none⟩ = some (.int .i64 (m : Int)) ∧ v.cell? ⟨w1.heap.size, 1, none⟩ = some (.slice a Lc.length cp) := ⟨p0, p1⟩
          refine wpAnyH_ready (rs := [9, 13]) (by kernel_rfl) (by simp) ?_
          refine AllReadyH.cons rfl (fun K hK => ?_) (AllReadyH.cons rfl (fun K hK => ?_) AllReadyH.nil)
          · go_simp
            obtain ⟨u, hu⟩ : ∃ z, z = v.alloc (.cells #[.int .i64 ((m : Int) + 1)] 3) := ⟨_, rfl⟩
            have b : Below v.heap.size v u := by rw [hu]; exact (Below.refl _ _).alloc (Nat.le_refl _) _
            have eu : v.heap.size < u.heap.size := by rw [hu]; simp
            have fu : w3.heap.size ≤ v.heap.size := (unhide hbw).size
            have hO := hide (World.ownsRow.kept (w' := u) (unhide hO) (grown_below b) (by simp [Value.ownBlock]))
            have zO : g5 < u.heap.size := Nat.lt_of_lt_of_le zO b.size
            have hbw := hide ((unhide hbw).trans (b.mono (unhide hbw).size))
            have p0 := cell_later b p0
            have p1 := cell_later b p1
            have hE : Hid (Clz.Ok (⟨v.heap.size, 1, [(m : Int) + 1]⟩ : Clz) u 0) := by show Clz.Ok _ _ _; rw [hu]; exact clz_lit v 0 #[.int .i64 ((m : Int) + 1)] [(m : Int) + 1] rfl (by omega) (by simp) (unhide hLit)
            have nOE : g5 ≠ v.heap.size := by omega
            rw [← hu]
            obtain ⟨E, hEe⟩ : ∃ z, z = v.heap.size := ⟨_, rfl⟩
            rw [← hEe] at hE nOE ⊢
            have zE : E < u.heap.size := by omega
            have yE : w3.heap.size ≤ E := by omega
            clear hu b eu fu hEe
            refine hK.out _ _ ?_ (fun hHeld => ?_)
            · exact ⟨p0, p1⟩
            clear hK K
            try simp only [List.getElem_toArray, List.getElem_cons_succ, List.getElem_cons_zero, Act.put, List.setIfInBounds_toArray, List.set_cons_zero, List.set_cons_succ]
            rw [← unhide hGo]
            exact goTo (N_2_5_9 X g5 c5 E u hbw p0 p1 hO zO yO hE zE yE nOE) (by kernel_rfl) (by kernel_rfl) (by rw [unhide ha0]; kernel_rfl)
          · go_simp
            obtain ⟨u, hu⟩ : ∃ z, z = v.alloc (.cells #[.int .i64 0, .slice none 0 0] 25) := ⟨_, rfl⟩
            have b : Below v.heap.size v u := by rw [hu]; exact (Below.refl _ _).alloc (Nat.le_refl _) _
            have eu : v.heap.size < u.heap.size := by rw [hu]; simp
            have fu : w3.heap.size ≤ v.heap.size := (unhide hbw).size
            have hO := hide (World.ownsRow.kept (w' := u) (unhide hO) (grown_below b) (by simp [Value.ownBlock]))
            have zO : g5 < u.heap.size := Nat.lt_of_lt_of_le zO b.size
            have hbw := hide ((unhide hbw).trans (b.mono (unhide hbw).size))
            have p0 := cell_later b p0
            have p1 := cell_later b p1
            have hD0 : u.cell? ⟨v.heap.size, 0, none⟩ = some (.int .i64 0) := by rw [hu]; simp [go_sem]
            have hD1 : u.cell? ⟨v.heap.size, 1, none⟩ = some (.slice none 0 0) := by rw [hu]; simp [go_sem]
            have hDf0 : u.frozen? ⟨v.heap.size, 0, none⟩ = false := by rw [hu]; simp [go_sem]
            have hDf1 : u.frozen? ⟨v.heap.size, 1, none⟩ = false := by rw [hu]; simp [go_sem]
            have nOD : g5 ≠ v.heap.size := by omega
            rw [← hu]
            obtain ⟨D, hDe⟩ : ∃ z, z = v.heap.size := ⟨_, rfl⟩
            rw [← hDe] at hD0 hD1 hDf0 hDf1 nOD ⊢
            have zD : D < u.heap.size := by omega
            have yD : w3.heap.size ≤ D := by omega
            clear hu b eu fu hDe
            refine hK.out _ _ ?_ (fun hHeld => ?_)
            · exact ⟨p0, p1⟩
            clear hK K
            try simp only [List.getElem_toArray, List.getElem_cons_succ, List.getElem_cons_zero, Act.put, List.setIfInBounds_toArray, List.set_cons_zero, List.set_cons_succ]
            rw [← unhide hGo]
            exact goTo (N_2_5_13 X g5 c5 D u hbw p0 p1 hO zO yO hD0 hD1 hDf0 hDf1 zD yD nOD) (by kernel_rfl) (by kernel_rfl) (by rw [unhide ha0]; kernel_rfl)
        have N_2_9 : ∀ (X E : Nat) (v : World) (hbw : Hid (Below w3.heap.size w3 v)) (p0 : v.cell? ⟨w1.heap.size, 0, none⟩ = some (.int .i64 (m : Int))) (p1 : v.cell? ⟨w1.heap.size, 1, none⟩ = some (.slice a Lc.length cp)) (hX : Hid (v.heap[X]? = some (.cells #[] 30 (0, 0)))) (zX : X < v.heap.size) (yX : w3.heap.size ≤ X) (hE : Hid (Clz.Ok (⟨E, 1, [(m : Int) + 1]⟩ : Clz) v 0)) (zE : E < v.heap.size) (yE : w3.heap.size ≤ E) (nXE : X ≠ E), Go 6 #[true, true, true, true, true, false, true, true, true, true, false, false, false, false, false] ((a0.put (some 56) (.slice (some ⟨X, 0, none⟩) 0 0)).put (some 63) (.slice (some ⟨E, 0, none⟩) 1 1)) v := by
          intro X E v hbw p0 p1 hX zX yX hE zE yE nXE
          rw [unhide hGo, unhide ha0]
          try simp only [List.getElem_toArray, List.getElem_cons_succ, List.getElem_cons_zero, Act.put, List.setIfInBounds_toArray, List.set_cons_zero, List.set_cons_succ]
          have hHeld : v.cell? ⟨w1.heap.size, 0, none⟩ = some (.int .i64 (m : Int)) ∧ v.cell? ⟨w1.heap.size, 1, none⟩ = some (.slice a Lc.length cp) := ⟨p0, p1⟩
          refine wpAnyH_ready (rs := [5, 10, 13]) (by kernel_rfl) (by simp) ?_
          refine AllReadyH.cons rfl (fun K hK => ?_) (AllReadyH.cons rfl (fun K hK => ?_) (AllReadyH.cons rfl (fun K hK => ?_) AllReadyH.nil))
          · apply step_clz_copy (R := 0) (Ls := Lc) (base := w3.heap.size)
            case hgd => rfl
            case ho => rfl
            case hty => rfl
            case hs => rfl
            case hX => exact unhide hX
            case hbX => exact yX
            case hbase => exact (unhide hbw).size
            case hx => rfl
            case hc => exact (unhide HC0).later (unhide hbw)
            case hl => omega
            case' h => intro g5 c5 u o5 gr5 at5 lt5
            have mv5 : Mov X _ u := mov_of_grown gr5
            have hE := hide ((unhide hE).grown (grown_mov mv5) (by simp only [ne_eq, Option.some.injEq]; omega))
            have zE : E < u.heap.size := Nat.lt_of_lt_of_le zE mv5.size
            have p0 := mv5.cell p0 (by simp only; omega)
            have p1 := mv5.cell p1 (by simp only; omega)
            have hbw := hide ((unhide hbw).trans (mv5.below yX (unhide hbw).size))
            have hO := hide o5
            have zO := lt5
            have yO : w3.heap.size ≤ g5 := own_base o5
            have nOE : g5 ≠ E := by rcases at5 with e | e <;> omega
            clear o5 gr5 at5 lt5 mv5
            refine hK.out _ _ ?_ (fun hHeld => ?_)
            · exact ⟨p0, p1⟩
            clear hK K
            try simp only [List.getElem_toArray, List.getElem_cons_succ, List.getElem_cons_zero, Act.put, List.setIfInBounds_toArray, List.set_cons_zero, List.set_cons_succ]
            rw [← unhide hGo]
            exact goTo (N_2_5_9 X g5 c5 E u hbw p0 p1 hO zO yO hE zE yE nOE) (by kernel_rfl) (by kernel_rfl) (by rw [unhide ha0]; kernel_rfl)
          · go_simp
            obtain ⟨u, hu⟩ : ∃ z, z = v.alloc (.cells #[.slice (some ⟨E, 0, none⟩) 1 1] 30) := ⟨_, rfl⟩
            have b : Below v.heap.size v u := by rw [hu]; exact (Below.refl _ _).alloc (Nat.le_refl _) _
            have eu : v.heap.size < u.heap.size := by rw [hu]; simp
            have fu : w3.heap.size ≤ v.heap.size := (unhide hbw).size
            have hX : Hid (u.heap[X]? = some (.cells #[] 30 (0, 0))) := (b.block _ (by omega)).trans (unhide hX)
            have zX : X < u.heap.size := Nat.lt_of_lt_of_le zX b.size
            have hE := hide ((unhide hE).later b)
            have zE : E < u.heap.size := Nat.lt_of_lt_of_le zE b.size
            have hbw := hide ((unhide hbw).trans (b.mono (unhide hbw).size))
            have p0 := cell_later b p0
            have p1 := cell_later b p1
            have hT : u.cell? ⟨v.heap.size, 0, none⟩ = some (.slice (some ⟨E, 0, none⟩) 1 1) := by rw [hu]; simp [go_sem]
            have nXT : X ≠ v.heap.size := by omega
            have nET : E ≠ v.heap.size := by omega
            rw [← hu]
            obtain ⟨T, hTe⟩ : ∃ z, z = v.heap.size := ⟨_, rfl⟩
            rw [← hTe] at hT nXT nET ⊢
            have zT : T < u.heap.size := by omega
            have yT : w3.heap.size ≤ T := by omega
            clear hu b eu fu hTe
            refine hK.out _ _ ?_ (fun hHeld => ?_)
            · exact ⟨p0, p1⟩
            clear hK K
            try simp only [List.getElem_toArray, List.getElem_cons_succ, List.getElem_cons_zero, Act.put, List.setIfInBounds_toArray, List.set_cons_zero, List.set_cons_succ]
            rw [← unhide hGo]
            exact goTo (N_2_9_10 X E T u hbw p0 p1 hX zX yX hE zE yE hT zT yT nXE nXT nET) (by kernel_rfl) (by kernel_rfl) (by rw [unhide ha0]; kernel_rfl)
          · go_simp
            obtain ⟨u, hu⟩ : ∃ z, z = v.alloc (.cells #[.int .i64 0, .slice none 0 0] 25) := ⟨_, rfl⟩
            have b : Below v.heap.size v u := by rw [hu]; exact (Below.refl _ _).alloc (Nat.le_refl _) _
            have eu : v.heap.size < u.heap.size := by rw [hu]; simp
            have fu : w3.heap.size ≤ v.heap.size := (unhide hbw).size
            have hX : Hid (u.heap[X]? = some (.cells #[] 30 (0, 0))) := (b.block _ (by omega)).trans (unhide hX)
            have zX : X < u.heap.size := Nat.lt_of_lt_of_le zX b.size
            have hE := hide ((unhide hE).later b)
            have zE : E < u.heap.size := Nat.lt_of_lt_of_le zE b.size
            have hbw := hide ((unhide hbw).trans (b.mono (unhide hbw).size))
            have p0 := cell_later b p0
            have p1 := cell_later b p1
            have hD0 : u.cell? ⟨v.heap.size, 0, none⟩ = some (.int .i64 0) := by rw [hu]; simp [go_sem]
            have hD1 : u.cell? ⟨v.heap.size, 1, none⟩ = some (.slice none 0 0) := by rw [hu]; simp [go_sem]
            have hDf0 : u.frozen? ⟨v.heap.size, 0, none⟩ = false := by rw [hu]; simp [go_sem]
            have hDf1 : u.frozen? ⟨v.heap.size, 1, none⟩ = false := by rw [hu]; simp [go_sem]
            have nXD : X ≠ v.heap.size := by omega
            have nED : E ≠ v.heap.size := by omega
            rw [← hu]
            obtain ⟨D, hDe⟩ : ∃ z, z = v.heap.size := ⟨_, rfl⟩
            rw [← hDe] at hD0 hD1 hDf0 hDf1 nXD nED ⊢
            have zD : D < u.heap.size := by omega
            have yD : w3.heap.size ≤ D := by omega
            clear hu b eu fu hDe
            refine hK.out _ _ ?_ (fun hHeld => ?_)
            · exact ⟨p0, p1⟩
            clear hK K
            try simp only [List.getElem_toArray, List.getElem_cons_succ, List.getElem_cons_zero, Act.put, List.setIfInBounds_toArray, List.set_cons_zero, List.set_cons_succ]
            rw [← unhide hGo]
            exact goTo (N_2_9_13 X E D u hbw p0 p1 hX zX yX hE zE yE hD0 hD1 hDf0 hDf1 zD yD nXE nXD nED) (by kernel_rfl) (by kernel_rfl) (by rw [unhide ha0]; kernel_rfl)
        have N_2_13 : ∀ (X D : Nat) (v : World) (hbw : Hid (Below w3.heap.size w3 v)) (p0 : v.cell? ⟨w1.heap.size, 0, none⟩ = some (.int .i64 (m : Int))) (p1 : v.cell? ⟨w1.heap.size, 1, none⟩ = some (.slice a Lc.length cp)) (hX : Hid (v.heap[X]? = some (.cells #[] 30 (0, 0)))) (zX : X < v.heap.size) (yX : w3.heap.size ≤ X) (hD0 : v.cell? ⟨D, 0, none⟩ = some (.int .i64 0)) (hD1 : v.cell? ⟨D, 1, none⟩ = some (.slice none 0 0)) (hDf0 : v.frozen? ⟨D, 0, none⟩ = false) (hDf1 : v.frozen? ⟨D, 1, none⟩ = false) (zD : D < v.heap.size) (yD : w3.heap.size ≤ D) (nXD : X ≠ D), Go 6 #[true, true, true, true, true, false, true, true, true, false, false, false, false, true, false] ((a0.put (some 56) (.slice (some ⟨X, 0, none⟩) 0 0)).put (some 5) (.pointer (some ⟨D, 0, none⟩))) v := by
          intro X D v hbw p0 p1 hX zX yX hD0 hD1 hDf0 hDf1 zD yD nXD
          rw [unhide hGo, unhide ha0]
          try simp only [List.getElem_toArray, List.getElem_cons_succ, List.getElem_cons_zero, Act.put, List.setIfInBounds_toArray, List.set_cons_zero, List.set_cons_succ]
          have hHeld : v.cell? ⟨w1.heap.size, 0, none⟩ = some (.int .i64 (m : Int)) ∧ v.cell? ⟨w1.heap.size, 1, none⟩ = some (.slice a Lc.length cp) := ⟨p0, p1⟩
          refine wpAnyH_ready (rs := [5, 9]) (by kernel_rfl) (by simp) ?_
          refine AllReadyH.cons rfl (fun K hK => ?_) (AllReadyH.cons rfl (fun K hK => ?_) AllReadyH.nil)
          · apply step_clz_copy (R := 0) (Ls := Lc) (base := w3.heap.size)
            case hgd => rfl
            case ho => rfl
            case hty => rfl
            case hs => rfl
            case hX => exact unhide hX
            case hbX => exact yX
            case hbase => exact (unhide hbw).size
            case hx => rfl
            case hc => exact (unhide HC0).later (unhide hbw)
            case hl => omega
            case' h => intro g5 c5 u o5 gr5 at5 lt5
            have mv5 : Mov X _ u := mov_of_grown gr5
            have hD0 := mv5.cell hD0 (by simp only; omega)
            have hD1 := mv5.cell hD1 (by simp only; omega)
            have hDf0 := (World.frozen?_of_block (w := v) (a := ⟨D, 0, none⟩) (mv5.2.2.2.2 D zD (by omega))).trans hDf0
            have hDf1 := (World.frozen?_of_block (w := v) (a := ⟨D, 1, none⟩) (mv5.2.2.2.2 D zD (by omega))).trans hDf1
            have zD : D < u.heap.size := Nat.lt_of_lt_of_le zD mv5.size
            have p0 := mv5.cell p0 (by simp only; omega)
            have p1 := mv5.cell p1 (by simp only; omega)
            have hbw := hide ((unhide hbw).trans (mv5.below yX (unhide hbw).size))
            have hO := hide o5
            have zO := lt5
            have yO : w3.heap.size ≤ g5 := own_base o5
            have nOD : g5 ≠ D := by rcases at5 with e | e <;> omega
            clear o5 gr5 at5 lt5 mv5
            refine hK.out _ _ ?_ (fun hHeld => ?_)
            · exact ⟨p0, p1⟩
            clear hK K
            try simp only [List.getElem_toArray, List.getElem_cons_succ, List.getElem_cons_zero, Act.put, List.setIfInBounds_toArray, List.set_cons_zero, List.set_cons_succ]
            rw [← unhide hGo]
            exact goTo (N_2_5_13 X g5 c5 D u hbw p0 p1 hO zO yO hD0 hD1 hDf0 hDf1 zD yD nOD) (by kernel_rfl) (by kernel_rfl) (by rw [unhide ha0]; kernel_rfl)
          · go_simp
            obtain ⟨u, hu⟩ : ∃ z, z = v.alloc (.cells #[.int .i64 ((m : Int) + 1)] 3) := ⟨_, rfl⟩
            have b : Below v.heap.size v u := by rw [hu]; exact (Below.refl _ _).alloc (Nat.le_refl _) _
            have eu : v.heap.size < u.heap.size := by rw [hu]; simp
            have fu : w3.heap.size ≤ v.heap.size := (unhide hbw).size
            have hX : Hid (u.heap[X]? = some (.cells #[] 30 (0, 0))) := (b.block _ (by omega)).trans (unhide hX)
            have zX : X < u.heap.size := Nat.lt_of_lt_of_le zX b.size
            have hD0 := cell_later b hD0
            have hD1 := cell_later b hD1
            have hDf0 := (b.frozen (p := ⟨D, 0, none⟩) zD).trans hDf0
            have hDf1 := (b.frozen (p := ⟨D, 1, none⟩) zD).trans hDf1
            have zD : D < u.heap.size := Nat.lt_of_lt_of_le zD b.size
            have hbw := hide ((unhide hbw).trans (b.mono (unhide hbw).size))
            have p0 := cell_later b p0
            have p1 := cell_later b p1
            have hE : Hid (Clz.Ok (⟨v.heap.size, 1, [(m : Int) + 1]⟩ : Clz) u 0) := by show Clz.Ok _ _ _; rw [hu]; exact clz_lit v 0 #[.int .i64 ((m : Int) + 1)] [(m : Int) + 1] rfl (by omega) (by simp) (unhide hLit)
            have nXE : X ≠ v.heap.size := by omega
            have nED : v.heap.size ≠ D := by omega
            rw [← hu]
            obtain ⟨E, hEe⟩ : ∃ z, z = v.heap.size := ⟨_, rfl⟩
            rw [← hEe] at hE nXE nED ⊢
            have zE : E < u.heap.size := by omega
            have yE : w3.heap.size ≤ E := by omega
            clear hu b eu fu hEe
            refine hK.out _ _ ?_ (fun hHeld => ?_)
            · exact ⟨p0, p1⟩
            clear hK K
            try simp only [List.getElem_toArray, List.getElem_cons_succ, List.getElem_cons_zero, Act.put, List.setIfInBounds_toArray, List.set_cons_zero, List.set_cons_succ]
            rw [← unhide hGo]
            exact goTo (N_2_9_13 X E D u hbw p0 p1 hX zX yX hE zE yE hD0 hD1 hDf0 hDf1 zD yD nXE nXD nED) (by kernel_rfl) (by kernel_rfl) (by rw [unhide ha0]; kernel_rfl)
        have N_9_10 : ∀ (E T : Nat) (v : World) (hbw : Hid (Below w3.heap.size w3 v)) (p0 : v.cell? ⟨w1.heap.size, 0, none⟩ = some (.int .i64 (m : Int))) (p1 : v.cell? ⟨w1.heap.size, 1, none⟩ = some (.slice a Lc.length cp)) (hE : Hid (Clz.Ok (⟨E, 1, [(m : Int) + 1]⟩ : Clz) v 0)) (zE : E < v.heap.size) (yE : w3.heap.size ≤ E) (hT : v.cell? ⟨T, 0, none⟩ = some (.slice (some ⟨E, 0, none⟩) 1 1)) (zT : T < v.heap.size) (yT : w3.heap.size ≤ T) (nET : E ≠ T), Go 6 #[true, true, false, true, true, false, true, true, true, true, true, false, false, false, false] ((a0.put (some 63) (.slice (some ⟨E, 0, none⟩) 1 1)).put (some 64) (.slice (some ⟨T, 0, none⟩) 1 1)) v := by
          intro E T v hbw p0 p1 hE zE yE hT zT yT nET
          rw [unhide hGo, unhide ha0]
          try simp only [List.getElem_toArray, List.getElem_cons_succ, List.getElem_cons_zero, Act.put, List.setIfInBounds_toArray, List.set_cons_zero, List.set_cons_succ]
          have hHeld : v.cell? ⟨w1.heap.size, 0, none⟩ = some (.int .i64 (m : Int)) ∧ v.cell? ⟨w1.heap.size, 1, none⟩ = some (.slice a Lc.length cp) := ⟨p0, p1⟩
          refine wpAnyH_ready (rs := [2, 13]) (by kernel_rfl) (by simp) ?_
          refine AllReadyH.cons rfl (fun K hK => ?_) (AllReadyH.cons rfl (fun K hK => ?_) AllReadyH.nil)
          · go_simp
            obtain ⟨u, hu⟩ : ∃ z, z = v.alloc (.cells #[] 30) := ⟨_, rfl⟩
            have b : Below v.heap.size v u := by rw [hu]; exact (Below.refl _ _).alloc (Nat.le_refl _) _
            have eu : v.heap.size < u.heap.size := by rw [hu]; simp
            have fu : w3.heap.size ≤ v.heap.size := (unhide hbw).size
            have hE := hide ((unhide hE).later b)
            have zE : E < u.heap.size := Nat.lt_of_lt_of_le zE b.size
            have hT := cell_later b hT
            have zT : T < u.heap.size := Nat.lt_of_lt_of_le zT b.size
            have hbw := hide ((unhide hbw).trans (b.mono (unhide hbw).size))
            have p0 := cell_later b p0
            have p1 := cell_later b p1
            have hX : Hid (u.heap[v.heap.size]? = some (.cells #[] 30 (0, 0))) := by show _ = _; rw [hu]; exact alloc_at rfl
            have nXE : v.heap.size ≠ E := by omega
            have nXT : v.heap.size ≠ T := by omega
            rw [← hu]
            obtain ⟨X, hXe⟩ : ∃ z, z = v.heap.size := ⟨_, rfl⟩
            rw [← hXe] at hX nXE nXT ⊢
            have zX : X < u.heap.size := by omega
            have yX : w3.heap.size ≤ X := by omega
            clear hu b eu fu hXe
            refine hK.out _ _ ?_ (fun hHeld => ?_)
            · exact ⟨p0, p1⟩
            clear hK K
            try simp only [List.getElem_toArray, List.getElem_cons_succ, List.getElem_cons_zero, Act.put, List.setIfInBounds_toArray, List.set_cons_zero, List.set_cons_succ]
            rw [← unhide hGo]
            exact goTo (N_2_9_10 X E T u hbw p0 p1 hX zX yX hE zE yE hT zT yT nXE nXT nET) (by kernel_rfl) (by kernel_rfl) (by rw [unhide ha0]; kernel_rfl)
          · go_simp
            obtain ⟨u, hu⟩ : ∃ z, z = v.alloc (.cells #[.int .i64 0, .slice none 0 0] 25) := ⟨_, rfl⟩
            have b : Below v.heap.size v u := by rw [hu]; exact (Below.refl _ _).alloc (Nat.le_refl _) _
            have eu : v.heap.size < u.heap.size := by rw [hu]; simp
            have fu : w3.heap.size ≤ v.heap.size := (unhide hbw).size
            have hE := hide ((unhide hE).later b)
            have zE : E < u.heap.size := Nat.lt_of_lt_of_le zE b.size
            have hT := cell_later b hT
            have zT : T < u.heap.size := Nat.lt_of_lt_of_le zT b.size
            have hbw := hide ((unhide hbw).trans (b.mono (unhide hbw).size))
            have p0 := cell_later b p0
            have p1 := cell_later b p1
            have hD0 : u.cell? ⟨v.heap.size, 0, none⟩ = some (.int .i64 0) := by rw [hu]; simp [go_sem]
            have hD1 : u.cell? ⟨v.heap.size, 1, none⟩ = some (.slice none 0 0) := by rw [hu]; simp [go_sem]
            have hDf0 : u.frozen? ⟨v.heap.size, 0, none⟩ = false := by rw [hu]; simp [go_sem]
            have hDf1 : u.frozen? ⟨v.heap.size, 1, none⟩ = false := by rw [hu]; simp [go_sem]
            have nED : E ≠ v.heap.size := by omega
            have nTD : T ≠ v.heap.size := by omega
            rw [← hu]
            obtain ⟨D, hDe⟩ : ∃ z, z = v.heap.size := ⟨_, rfl⟩
            rw [← hDe] at hD0 hD1 hDf0 hDf1 nED nTD ⊢
            have zD : D < u.heap.size := by omega
            have yD : w3.heap.size ≤ D := by omega
            clear hu b eu fu hDe
            refine hK.out _ _ ?_ (fun hHeld => ?_)
            · exact ⟨p0, p1⟩
            clear hK K
            try simp only [List.getElem_toArray, List.getElem_cons_succ, List.getElem_cons_zero, Act.put, List.setIfInBounds_toArray, List.set_cons_zero, List.set_cons_succ]
            rw [← unhide hGo]
            exact goTo (N_9_10_13 E T D u hbw p0 p1 hE zE yE hT zT yT hD0 hD1 hDf0 hDf1 zD yD nET nED nTD) (by kernel_rfl) (by kernel_rfl) (by rw [unhide ha0]; kernel_rfl)
        have N_9_13 : ∀ (E D : Nat) (v : World) (hbw : Hid (Below w3.heap.size w3 v)) (p0 : v.cell? ⟨w1.heap.size, 0, none⟩ = some (.int .i64 (m : Int))) (p1 : v.cell? ⟨w1.heap.size, 1, none⟩ = some (.slice a Lc.length cp)) (hE : Hid (Clz.Ok (⟨E, 1, [(m : Int) + 1]⟩ : Clz) v 0)) (zE : E < v.heap.size) (yE : w3.heap.size ≤ E) (hD0 : v.cell? ⟨D, 0, none⟩ = some (.int .i64 0)) (hD1 : v.cell? ⟨D, 1, none⟩ = some (.slice none 0 0)) (hDf0 : v.frozen? ⟨D, 0, none⟩ = false) (hDf1 : v.frozen? ⟨D, 1, none⟩ = false) (zD : D < v.heap.size) (yD : w3.heap.size ≤ D) (nED : E ≠ D), Go 6 #[true, true, false, true, true, false, true, true, true, true, false, false, false, true, false] ((a0.put (some 63) (.slice (some ⟨E, 0, none⟩) 1 1)).put (some 5) (.pointer (some ⟨D, 0, none⟩))) v := by
          intro E D v hbw p0 p1 hE zE yE hD0 hD1 hDf0 hDf1 zD yD nED
          rw [unhide hGo, unhide ha0]
          try simp only [List.getElem_toArray, List.getElem_cons_succ, List.getElem_cons_zero, Act.put, List.setIfInBounds_toArray, List.set_cons_zero, List.set_cons_succ]
          have hHeld : v.cell? ⟨w1.heap.size, 0, none⟩ = some (.int .i64 (m : Int)) ∧ v.cell? ⟨w1.heap.size, 1, none⟩ = some (.slice a Lc.length cp) := ⟨p0, p1⟩
          refine wpAnyH_ready (rs := [2, 10]) (by kernel_rfl) (by simp) ?_
          refine AllReadyH.cons rfl (fun K hK => ?_) (AllReadyH.cons rfl (fun K hK => ?_) AllReadyH.nil)
          · go_simp
            obtain ⟨u, hu⟩ : ∃ z, z = v.alloc (.cells #[] 30) := ⟨_, rfl⟩
            have b : Below v.heap.size v u := by rw [hu]; exact (Below.refl _ _).alloc (Nat.le_refl _) _
            have eu : v.heap.size < u.heap.size := by rw [hu]; simp
            have fu : w3.heap.size ≤ v.heap.size := (unhide hbw).size
            have hE := hide ((unhide hE).later b)
            have zE : E < u.heap.size := Nat.lt_of_lt_of_le zE b.size
            have hD0 := cell_later b hD0
            have hD1 := cell_later b hD1
            have hDf0 := (b.frozen (p := ⟨D, 0, none⟩) zD).trans hDf0
            have hDf1 := (b.frozen (p := ⟨D, 1, none⟩) zD).trans hDf1
            have zD : D < u.heap.size := Nat.lt_of_lt_of_le zD b.size
            have hbw := hide ((unhide hbw).trans (b.mono (unhide hbw).size))
            have p0 := cell_later b p0
            have p1 := cell_later b p1
            have hX : Hid (u.heap[v.heap.size]? = some (.cells #[] 30 (0, 0))) := by show _ = _; rw [hu]; exact alloc_at rfl
            have nXE : v.heap.size ≠ E := by omega
            have nXD : v.heap.size ≠ D := by omega
            rw [← hu]
            obtain ⟨X, hXe⟩ : ∃ z, z = v.heap.size := ⟨_, rfl⟩
            rw [← hXe] at hX nXE nXD ⊢
            have zX : X < u.heap.size := by omega
            have yX : w3.heap.size ≤ X := by omega
            clear hu b eu fu hXe
            refine hK.out _ _ ?_ (fun hHeld => ?_)
            · exact ⟨p0, p1⟩
            clear hK K
            try simp only [List.getElem_toArray, List.getElem_cons_succ, List.getElem_cons_zero, Act.put, List.setIfInBounds_toArray, List.set_cons_zero, List.set_cons_succ]
            rw [← unhide hGo]
            exact goTo (N_2_9_13 X E D u hbw p0 p1 hX zX yX hE zE yE hD0 hD1 hDf0 hDf1 zD yD nXE nXD nED) (by kernel_rfl) (by kernel_rfl) (by rw [unhide ha0]; kernel_rfl)
          · go_simp
            obtain ⟨u, hu⟩ : ∃ z, z = v.alloc (.cells #[.slice (some ⟨E, 0, none⟩) 1 1] 30) := ⟨_, rfl⟩
            have b : Below v.heap.size v u := by rw [hu]; exact (Below.refl _ _).alloc (Nat.le_refl _) _
            have eu : v.heap.size < u.heap.size := by rw [hu]; simp
            have fu : w3.heap.size ≤ v.heap.size := (unhide hbw).size
            have hE := hide ((unhide hE).later b)
            have zE : E < u.heap.size := Nat.lt_of_lt_of_le zE b.size
            have hD0 := cell_later b hD0
            have hD1 := cell_later b hD1
            have hDf0 := (b.frozen (p := ⟨D, 0, none⟩) zD).trans hDf0
            have hDf1 := (b.frozen (p := ⟨D, 1, none⟩) zD).trans hDf1
            have zD : D < u.heap.size := Nat.lt_of_lt_of_le zD b.size
            have hbw := hide ((unhide hbw).trans (b.mono (unhide hbw).size))
            have p0 := cell_later b p0
            have p1 := cell_later b p1
            have hT : u.cell? ⟨v.heap.size, 0, none⟩ = some (.slice (some ⟨E, 0, none⟩) 1 1) := by rw [hu]; simp [go_sem]
            have nET : E ≠ v.heap.size := by omega
            have nTD : v.heap.size ≠ D := by omega
            rw [← hu]
            obtain ⟨T, hTe⟩ : ∃ z, z = v.heap.size := ⟨_, rfl⟩
            rw [← hTe] at hT nET nTD ⊢
            have zT : T < u.heap.size := by omega
            have yT : w3.heap.size ≤ T := by omega
            clear hu b eu fu hTe
            refine hK.out _ _ ?_ (fun hHeld => ?_)
            · exact ⟨p0, p1⟩
            clear hK K
            try simp only [List.getElem_toArray, List.getElem_cons_succ, List.getElem_cons_zero, Act.put, List.setIfInBounds_toArray, List.set_cons_zero, List.set_cons_succ]
            rw [← unhide hGo]
            exact goTo (N_9_10_13 E T D u hbw p0 p1 hE zE yE hT zT yT hD0 hD1 hDf0 hDf1 zD yD nET nED nTD) (by kernel_rfl) (by kernel_rfl) (by rw [unhide ha0]; kernel_rfl)
        have N_2 : ∀ (X : Nat) (v : World) (hbw : Hid (Below w3.heap.size w3 v)) (p0 : v.cell? ⟨w1.heap.size, 0, none⟩ = some (.int .i64 (m : Int))) (p1 : v.cell? ⟨w1.heap.size, 1, none⟩ = some (.slice a Lc.length cp)) (hX : Hid (v.heap[X]? = some (.cells #[] 30 (0, 0)))) (zX : X < v.heap.size) (yX : w3.heap.size ≤ X), Go 7 #[true, true, true, true, true, false, true, true, true, false, false, false, false, false, false] (a0.put (some 56) (.slice (some ⟨X, 0, none⟩) 0 0)) v := by
          intro X v hbw p0 p1 hX zX yX
          rw [unhide hGo, unhide ha0]
          try simp only [List.getElem_toArray, List.getElem_cons_succ, List.getElem_cons_zero, Act.put, List.setIfInBounds_toArray, List.set_cons_zero, List.set_cons_succ]
          have hHeld : v.cell? ⟨w1.heap.size, 0, none⟩ = some (.int .i64 (m : Int)) ∧ v.cell? ⟨w1.heap.size, 1, none⟩ = some (.slice a Lc.length cp) := ⟨p0, p1⟩
          refine wpAnyH_ready (rs := [5, 9, 13]) (by kernel_rfl) (by simp) ?_
          refine AllReadyH.cons rfl (fun K hK => ?_) (AllReadyH.cons rfl (fun K hK => ?_) (AllReadyH.cons rfl (fun K hK => ?_) AllReadyH.nil))
          · apply step_clz_copy (R := 0) (Ls := Lc) (base := w3.heap.size)
            case hgd => rfl
            case ho => rfl
            case hty => rfl
            case hs => rfl
            case hX => exact unhide hX
            case hbX => exact yX
            case hbase => exact (unhide hbw).size
            case hx => rfl
            case hc => exact (unhide HC0).later (unhide hbw)
            case hl => omega
            case' h => intro g5 c5 u o5 gr5 at5 lt5
            have mv5 : Mov X _ u := mov_of_grown gr5
            have p0 := mv5.cell p0 (by simp only; omega)
            have p1 := mv5.cell p1 (by simp only; omega)
            have hbw := hide ((unhide hbw).trans (mv5.below yX (unhide hbw).size))
            have hO := hide o5
            have zO := lt5
            have yO : w3.heap.size ≤ g5 := own_base o5
            clear o5 gr5 at5 lt5 mv5
            refine hK.out _ _ ?_ (fun hHeld => ?_)
            · exact ⟨p0, p1⟩
            clear hK K
            try simp only [List.getElem_toArray, List.getElem_cons_succ, List.getElem_cons_zero, Act.put, List.setIfInBounds_toArray, List.set_cons_zero, List.set_cons_succ]
            rw [← unhide hGo]
            exact goTo (N_2_5 X g5 c5 u hbw p0 p1 hO zO yO) (by kernel_rfl) (by kernel_rfl) (by rw [unhide ha0]; kernel_rfl)
          · go_simp
            obtain ⟨u, hu⟩ : ∃ z, z = v.alloc (.cells #[.int .i64 ((m : Int) + 1)] 3) := ⟨_, rfl⟩
            have b : Below v.heap.size v u := by rw [hu]; exact (Below.refl _ _).alloc (Nat.le_refl _) _
            have eu : v.heap.size < u.heap.size := by rw [hu]; simp
            have fu : w3.heap.size ≤ v.heap.size := (unhide hbw).size
            have hX : Hid (u.heap[X]? = some (.cells #[] 30 (0, 0))) := (b.block _ (by omega)).trans (unhide hX)
            have zX : X < u.heap.size := Nat.lt_of_lt_of_le zX b.size
            have hbw := hide ((unhide hbw).trans (b.mono (unhide hbw).size))
            have p0 := cell_later b p0
            have p1 := cell_later b p1
            have hE : Hid (Clz.Ok (⟨v.heap.size, 1, [(m : Int) + 1]⟩ : Clz) u 0) := by show Clz.Ok _ _ _; rw [hu]; exact clz_lit v 0 #[.int .i64 ((m : Int) + 1)] [(m : Int) + 1] rfl (by omega) (by simp) (unhide hLit)
            have nXE : X ≠ v.heap.size := by omega
            rw [← hu]
            obtain ⟨E, hEe⟩ : ∃ z, z = v.heap.size := ⟨_, rfl⟩
            rw [← hEe] at hE nXE ⊢
            have zE : E < u.heap.size := by omega
            have yE : w3.heap.size ≤ E := by omega
            clear hu b eu fu hEe
            refine hK.out _ _ ?_ (fun hHeld => ?_)
            · exact ⟨p0, p1⟩
            clear hK K
            try simp only [List.getElem_toArray, List.getElem_cons_succ, List.getElem_cons_zero, Act.put, List.setIfInBounds_toArray, List.set_cons_zero, List.set_cons_succ]
            rw [← unhide hGo]
            exact goTo (N_2_9 X E u hbw p0 p1 hX zX yX hE zE yE nXE) (by kernel_rfl) (by kernel_rfl) (by rw [unhide ha0]; kernel_rfl)
          · go_simp
            obtain ⟨u, hu⟩ : ∃ z, z = v.alloc (.cells #[.int .i64 0, .slice none 0 0] 25) := ⟨_, rfl⟩
            have b : Below v.heap.size v u := by rw [hu]; exact (Below.refl _ _).alloc (Nat.le_refl _) _
            have eu : v.heap.size < u.heap.size := by rw [hu]; simp
            have fu : w3.heap.size ≤ v.heap.size := (unhide hbw).size
            have hX : Hid (u.heap[X]? = some (.cells #[] 30 (0, 0))) := (b.block _ (by omega)).trans (unhide hX)
            have zX : X < u.heap.size := Nat.lt_of_lt_of_le zX b.size
            have hbw := hide ((unhide hbw).trans (b.mono (unhide hbw).size))
            have p0 := cell_later b p0
            have p1 := cell_later b p1
            have hD0 : u.cell? ⟨v.heap.size, 0, none⟩ = some (.int .i64 0) := by rw [hu]; simp [go_sem]
            have hD1 : u.cell? ⟨v.heap.size, 1, none⟩ = some (.slice none 0 0) := by rw [hu]; simp [go_sem]
            have hDf0 : u.frozen? ⟨v.heap.size, 0, none⟩ = false := by rw [hu]; simp [go_sem]
            have hDf1 : u.frozen? ⟨v.heap.size, 1, none⟩ = false := by rw [hu]; simp [go_sem]
            have nXD : X ≠ v.heap.size := by omega
            rw [← hu]
            obtain ⟨D, hDe⟩ : ∃ z, z = v.heap.size := ⟨_, rfl⟩
            rw [← hDe] at hD0 hD1 hDf0 hDf1 nXD ⊢
            have zD : D < u.heap.size := by omega
            have yD : w3.heap.size ≤ D := by omega
            clear hu b eu fu hDe
            refine hK.out _ _ ?_ (fun hHeld => ?_)
            · exact ⟨p0, p1⟩
            clear hK K
            try simp only [List.getElem_toArray, List.getElem_cons_succ, List.getElem_cons_zero, Act.put, List.setIfInBounds_toArray, List.set_cons_zero, List.set_cons_succ]
            rw [← unhide hGo]
            exact goTo (N_2_13 X D u hbw p0 p1 hX zX yX hD0 hD1 hDf0 hDf1 zD yD nXD) (by kernel_rfl) (by kernel_rfl) (by rw [unhide ha0]; kernel_rfl)
        have N_9 : ∀ (E : Nat) (v : World) (hbw : Hid (Below w3.heap.size w3 v)) (p0 : v.cell? ⟨w1.heap.size, 0, none⟩ = some (.int .i64 (m : Int))) (p1 : v.cell? ⟨w1.heap.size, 1, none⟩ = some (.slice a Lc.length cp)) (hE : Hid (Clz.Ok (⟨E, 1, [(m : Int) + 1]⟩ : Clz) v 0)) (zE : E < v.heap.size) (yE : w3.heap.size ≤ E), Go 7 #[true, true, false, true, true, false, true, true, true, true, false, false, false, false, false] (a0.put (some 63) (.slice (some ⟨E, 0, none⟩) 1 1)) v := by
          intro E v hbw p0 p1 hE zE yE
          rw [unhide hGo, unhide ha0]
          try simp only [List.getElem_toArray, List.getElem_cons_succ, List.getElem_cons_zero, Act.put, List.setIfInBounds_toArray, List.set_cons_zero, List.set_cons_succ]
          have hHeld : v.cell? ⟨w1.heap.size, 0, none⟩ = some (.int .i64 (m : Int)) ∧ v.cell? ⟨w1.heap.size, 1, none⟩ = some (.slice a Lc.length cp) := ⟨p0, p1⟩
          refine wpAnyH_ready (rs := [2, 10, 13]) (by kernel_rfl) (by simp) ?_
          refine AllReadyH.cons rfl (fun K hK => ?_) (AllReadyH.cons rfl (fun K hK => ?_) (AllReadyH.cons rfl (fun K hK => ?_) AllReadyH.nil))
          · go_simp
            obtain ⟨u, hu⟩ : ∃ z, z = v.alloc (.cells #[] 30) := ⟨_, rfl⟩
            have b : Below v.heap.size v u := by rw [hu]; exact (Below.refl _ _).alloc (Nat.le_refl _) _
            have eu : v.heap.size < u.heap.size := by rw [hu]; simp
            have fu : w3.heap.size ≤ v.heap.size := (unhide hbw).size
            have hE := hide ((unhide hE).later b)
            have zE : E < u.heap.size := Nat.lt_of_lt_of_le zE b.size
            have hbw := hide ((unhide hbw).trans (b.mono (unhide hbw).size))
            have p0 := cell_later b p0
            have p1 := cell_later b p1
            have hX : Hid (u.heap[v.heap.size]? = some (.cells #[] 30 (0, 0))) := by show _ = _; rw [hu]; exact alloc_at rfl
            have nXE : v.heap.size ≠ E := by omega
            rw [← hu]
            obtain ⟨X, hXe⟩ : ∃ z, z = v.heap.size := ⟨_, rfl⟩
            rw [← hXe] at hX nXE ⊢
            have zX : X < u.heap.size := by omega
            have yX : w3.heap.size ≤ X := by omega
            clear hu b eu fu hXe
            refine hK.out _ _ ?_ (fun hHeld => ?_)
            · exact ⟨p0, p1⟩
            clear hK K
            try simp only [List.getElem_toArray, List.getElem_cons_succ, List.getElem_cons_zero, Act.put, List.setIfInBounds_toArray, List.set_cons_zero, List.set_cons_succ]
            rw [← unhide hGo]
            exact goTo (N_2_9 X E u hbw p0 p1 hX zX yX hE zE yE nXE) (by kernel_rfl) (by kernel_rfl) (by rw [unhide ha0]; kernel_rfl)
          · go_simp
            obtain ⟨u, hu⟩ : ∃ z, z = v.alloc (.cells #[.slice (some ⟨E, 0, none⟩) 1 1] 30) := ⟨_, rfl⟩
            have b : Below v.heap.size v u := by rw [hu]; exact (Below.refl _ _).alloc (Nat.le_refl _) _
            have eu : v.heap.size < u.heap.size := by rw [hu]; simp
            have fu : w3.heap.size ≤ v.heap.size := (unhide hbw).size
            have hE := hide ((unhide hE).later b)
            have zE : E < u.heap.size := Nat.lt_of_lt_of_le zE b.size
            have hbw := hide ((unhide hbw).trans (b.mono (unhide hbw).size))
            have p0 := cell_later b p0
            have p1 := cell_later b p1
            have hT : u.cell? ⟨v.heap.size, 0, none⟩ = some (.slice (some ⟨E, 0, none⟩) 1 1) := by rw [hu]; simp [go_sem]
            have nET : E ≠ v.heap.size := by omega
            rw [← hu]
            obtain ⟨T, hTe⟩ : ∃ z, z = v.heap.size := ⟨_, rfl⟩
            rw [← hTe] at hT nET ⊢
            have zT : T < u.heap.size := by omega
            have yT : w3.heap.size ≤ T := by omega
            clear hu b eu fu hTe
            refine hK.out _ _ ?_ (fun hHeld => ?_)
            · exact ⟨p0, p1⟩
            clear hK K
            try simp only [List.getElem_toArray, List.getElem_cons_succ, List.getElem_cons_zero, Act.put, List.setIfInBounds_toArray, List.set_cons_zero, List.set_cons_succ]
            rw [← unhide hGo]
            exact goTo (N_9_10 E T u hbw p0 p1 hE zE yE hT zT yT nET) (by kernel_rfl) (by kernel_rfl) (by rw [unhide ha0]; kernel_rfl)
          · go_simp
            obtain ⟨u, hu⟩ : ∃ z, z = v.alloc (.cells #[.int .i64 0, .slice none 0 0] 25) := ⟨_, rfl⟩
            have b : Below v.heap.size v u := by rw [hu]; exact (Below.refl _ _).alloc (Nat.le_refl _) _
            have eu : v.heap.size < u.heap.size := by rw [hu]; simp
            have fu : w3.heap.size ≤ v.heap.size := (unhide hbw).size
            have hE := hide ((unhide hE).later b)
            have zE : E < u.heap.size := Nat.lt_of_lt_of_le zE b.size
            have hbw := hide ((unhide hbw).trans (b.mono (unhide hbw).size))
            have p0 := cell_later b p0
            have p1 := cell_later b p1
            have hD0 : u.cell? ⟨v.heap.size, 0, none⟩ = some (.int .i64 0) := by rw [hu]; simp [go_sem]
            have hD1 : u.cell? ⟨v.heap.size, 1, none⟩ = some (.slice none 0 0) := by rw [hu]; simp [go_sem]
            have hDf0 : u.frozen? ⟨v.heap.size, 0, none⟩ = false := by rw [hu]; simp [go_sem]
            have hDf1 : u.frozen? ⟨v.heap.size, 1, none⟩ = false := by rw [hu]; simp [go_sem]
            have nED : E ≠ v.heap.size := by omega
            rw [← hu]
            obtain ⟨D, hDe⟩ : ∃ z, z = v.heap.size := ⟨_, rfl⟩
            rw [← hDe] at hD0 hD1 hDf0 hDf1 nED ⊢
            have zD : D < u.heap.size := by omega
            have yD : w3.heap.size ≤ D := by omega
            clear hu b eu fu hDe
            refine hK.out _ _ ?_ (fun hHeld => ?_)
            · exact ⟨p0, p1⟩
            clear hK K
            try simp only [List.getElem_toArray, List.getElem_cons_succ, List.getElem_cons_zero, Act.put, List.setIfInBounds_toArray, List.set_cons_zero, List.set_cons_succ]
            rw [← unhide hGo]
            exact goTo (N_9_13 E D u hbw p0 p1 hE zE yE hD0 hD1 hDf0 hDf1 zD yD nED) (by kernel_rfl) (by kernel_rfl) (by rw [unhide ha0]; kernel_rfl)
        have N_13 : ∀ (D : Nat) (v : World) (hbw : Hid (Below w3.heap.size w3 v)) (p0 : v.cell? ⟨w1.heap.size, 0, none⟩ = some (.int .i64 (m : Int))) (p1 : v.cell? ⟨w1.heap.size, 1, none⟩ = some (.slice a Lc.length cp)) (hD0 : v.cell? ⟨D, 0, none⟩ = some (.int .i64 0)) (hD1 : v.cell? ⟨D, 1, none⟩ = some (.slice none 0 0)) (hDf0 : v.frozen? ⟨D, 0, none⟩ = false) (hDf1 : v.frozen? ⟨D, 1, none⟩ = false) (zD : D < v.heap.size) (yD : w3.heap.size ≤ D), Go 7 #[true, true, false, true, true, false, true, true, true, false, false, false, false, true, false] (a0.put (some 5) (.pointer (some ⟨D, 0, none⟩))) v := by
          intro D v hbw p0 p1 hD0 hD1 hDf0 hDf1 zD yD
          rw [unhide hGo, unhide ha0]
          try simp only [List.getElem_toArray, List.getElem_cons_succ, List.getElem_cons_zero, Act.put, List.setIfInBounds_toArray, List.set_cons_zero, List.set_cons_succ]
          have hHeld : v.cell? ⟨w1.heap.size, 0, none⟩ = some (.int .i64 (m : Int)) ∧ v.cell? ⟨w1.heap.size, 1, none⟩ = some (.slice a Lc.length cp) := ⟨p0, p1⟩
          refine wpAnyH_ready (rs := [2, 9]) (by kernel_rfl) (by simp) ?_
          refine AllReadyH.cons rfl (fun K hK => ?_) (AllReadyH.cons rfl (fun K hK => ?_) AllReadyH.nil)
          · go_simp
            obtain ⟨u, hu⟩ : ∃ z, z = v.alloc (.cells #[] 30) := ⟨_, rfl⟩
            have b : Below v.heap.size v u := by rw [hu]; exact (Below.refl _ _).alloc (Nat.le_refl _) _
            have eu : v.heap.size < u.heap.size := by rw [hu]; simp
            have fu : w3.heap.size ≤ v.heap.size := (unhide hbw).size
            have hD0 := cell_later b hD0
            have hD1 := cell_later b hD1
            have hDf0 := (b.frozen (p := ⟨D, 0, none⟩) zD).trans hDf0
            have hDf1 := (b.frozen (p := ⟨D, 1, none⟩) zD).trans hDf1
            have zD : D < u.heap.size := Nat.lt_of_lt_of_le zD b.size
            have hbw := hide ((unhide hbw).trans (b.mono (unhide hbw).size))
            have p0 := cell_later b p0
            have p1 := cell_later b p1
            have hX : Hid (u.heap[v.heap.size]? = some (.cells #[] 30 (0, 0))) := by show _ = _; rw [hu]; exact alloc_at rfl
            have nXD : v.heap.size ≠ D := by omega
            rw [← hu]
            obtain ⟨X, hXe⟩ : ∃ z, z = v.heap.size := ⟨_, rfl⟩
            rw [← hXe] at hX nXD ⊢
            have zX : X < u.heap.size := by omega
            have yX : w3.heap.size ≤ X := by omega
            clear hu b eu fu hXe
            refine hK.out _ _ ?_ (fun hHeld => ?_)
            · exact ⟨p0, p1⟩
            clear hK K
            try simp only [List.getElem_toArray, List.getElem_cons_succ, List.getElem_cons_zero, Act.put, List.setIfInBounds_toArray, List.set_cons_zero, List.set_cons_succ]
            rw [← unhide hGo]
            exact goTo (N_2_13 X D u hbw p0 p1 hX zX yX hD0 hD1 hDf0 hDf1 zD yD nXD) (by kernel_rfl) (by kernel_rfl) (by rw [unhide ha0]; kernel_rfl)
          · go_simp
            obtain ⟨u, hu⟩ : ∃ z, z = v.alloc (.cells #[.int .i64 ((m : Int) + 1)] 3) := ⟨_, rfl⟩
            have b : Below v.heap.size v u := by rw [hu]; exact (Below.refl _ _).alloc (Nat.le_refl _) _
            have eu : v.heap.size < u.heap.size := by rw [hu]; simp
            have fu : w3.heap.size ≤ v.heap.size := (unhide hbw).size
            have hD0 := cell_later b hD0
            have hD1 := cell_later b hD1
            have hDf0 := (b.frozen (p := ⟨D, 0, none⟩) zD).trans hDf0
            have hDf1 := (b.frozen (p := ⟨D, 1, none⟩) zD).trans hDf1
            have zD : D < u.heap.size := Nat.lt_of_lt_of_le zD b.size
            have hbw := hide ((unhide hbw).trans (b.mono (unhide hbw).size))
            have p0 := cell_later b p0
            have p1 := cell_later b p1
            have hE : Hid (Clz.Ok (⟨v.heap.size, 1, [(m : Int) + 1]⟩ : Clz) u 0) := by show Clz.Ok _ _ _; rw [hu]; exact clz_lit v 0 #[.int .i64 ((m : Int) + 1)] [(m : Int) + 1] rfl (by omega) (by simp) (unhide hLit)
            have nED : v.heap.size ≠ D := by omega
            rw [← hu]
            obtain ⟨E, hEe⟩ : ∃ z, z = v.heap.size := ⟨_, rfl⟩
            rw [← hEe] at hE nED ⊢
            have zE : E < u.heap.size := by omega
            have yE : w3.heap.size ≤ E := by omega
            clear hu b eu fu hEe
            refine hK.out _ _ ?_ (fun hHeld => ?_)
            · exact ⟨p0, p1⟩
            clear hK K
            try simp only [List.getElem_toArray, List.getElem_cons_succ, List.getElem_cons_zero, Act.put, List.setIfInBounds_toArray, List.set_cons_zero, List.set_cons_succ]
            rw [← unhide hGo]
            exact goTo (N_9_13 E D u hbw p0 p1 hE zE yE hD0 hD1 hDf0 hDf1 zD yD nED) (by kernel_rfl) (by kernel_rfl) (by rw [unhide ha0]; kernel_rfl)
        have N_0 : ∀ (v : World) (hbw : Hid (Below w3.heap.size w3 v)) (p0 : v.cell? ⟨w1.heap.size, 0, none⟩ = some (.int .i64 (m : Int))) (p1 : v.cell? ⟨w1.heap.size, 1, none⟩ = some (.slice a Lc.length cp)), Go 8 #[true, true, false, true, true, false, true, true, true, false, false, false, false, false, false] a0 v := by
          intro v hbw p0 p1
          rw [unhide hGo, unhide ha0]
          try simp only [List.getElem_toArray, List.getElem_cons_succ, List.getElem_cons_zero, Act.put, List.setIfInBounds_toArray, List.set_cons_zero, List.set_cons_succ]
          have hHeld : v.cell? ⟨w1.heap.size, 0, none⟩ = some (.int .i64 (m : Int)) ∧ v.cell? ⟨w1.heap.size, 1, none⟩ = some (.slice a Lc.length cp) := ⟨p0, p1⟩
          refine wpAnyH_ready (rs := [2, 9, 13]) (by kernel_rfl) (by simp) ?_
          refine AllReadyH.cons rfl (fun K hK => ?_) (AllReadyH.cons rfl (fun K hK => ?_) (AllReadyH.cons rfl (fun K hK => ?_) AllReadyH.nil))
          · go_simp
            obtain ⟨u, hu⟩ : ∃ z, z = v.alloc (.cells #[] 30) := ⟨_, rfl⟩
            have b : Below v.heap.size v u := by rw [hu]; exact (Below.refl _ _).alloc (Nat.le_refl _) _
            have eu : v.heap.size < u.heap.size := by rw [hu]; simp
            have fu : w3.heap.size ≤ v.heap.size := (unhide hbw).size
            have hbw := hide ((unhide hbw).trans (b.mono (unhide hbw).size))
            have p0 := cell_later b p0
            have p1 := cell_later b p1
            have hX : Hid (u.heap[v.heap.size]? = some (.cells #[] 30 (0, 0))) := by show _ = _; rw [hu]; exact alloc_at rfl
            rw [← hu]
            obtain ⟨X, hXe⟩ : ∃ z, z = v.heap.size := ⟨_, rfl⟩
            rw [← hXe] at hX ⊢
            have zX : X < u.heap.size := by omega
            have yX : w3.heap.size ≤ X := by omega
            clear hu b eu fu hXe
            refine hK.out _ _ ?_ (fun hHeld => ?_)
            · exact ⟨p0, p1⟩
            clear hK K
            try simp only [List.getElem_toArray, List.getElem_cons_succ, List.getElem_cons_zero, Act.put, List.setIfInBounds_toArray, List.set_cons_zero, List.set_cons_succ]
            rw [← unhide hGo]
            exact goTo (N_2 X u hbw p0 p1 hX zX yX) (by kernel_rfl) (by kernel_rfl) (by rw [unhide ha0]; kernel_rfl)
          · go_simp
            obtain ⟨u, hu⟩ : ∃ z, z = v.alloc (.cells #[.int .i64 ((m : Int) + 1)] 3) := ⟨_, rfl⟩
            have b : Below v.heap.size v u := by rw [hu]; exact (Below.refl _ _).alloc (Nat.le_refl _) _
            have eu : v.heap.size < u.heap.size := by rw [hu]; simp
            have fu : w3.heap.size ≤ v.heap.size := (unhide hbw).size
            have hbw := hide ((unhide hbw).trans (b.mono (unhide hbw).size))
            have p0 := cell_later b p0
            have p1 := cell_later b p1
            have hE : Hid (Clz.Ok (⟨v.heap.size, 1, [(m : Int) + 1]⟩ : Clz) u 0) := by show Clz.Ok _ _ _; rw [hu]; exact clz_lit v 0 #[.int .i64 ((m : Int) + 1)] [(m : Int) + 1] rfl (by omega) (by simp) (unhide hLit)
            rw [← hu]
            obtain ⟨E, hEe⟩ : ∃ z, z = v.heap.size := ⟨_, rfl⟩
            rw [← hEe] at hE ⊢
            have zE : E < u.heap.size := by omega
            have yE : w3.heap.size ≤ E := by omega
            clear hu b eu fu hEe
            refine hK.out _ _ ?_ (fun hHeld => ?_)
            · exact ⟨p0, p1⟩
            clear hK K
            try simp only [List.getElem_toArray, List.getElem_cons_succ, List.getElem_cons_zero, Act.put, List.setIfInBounds_toArray, List.set_cons_zero, List.set_cons_succ]
            rw [← unhide hGo]
            exact goTo (N_9 E u hbw p0 p1 hE zE yE) (by kernel_rfl) (by kernel_rfl) (by rw [unhide ha0]; kernel_rfl)
          · go_simp
            obtain ⟨u, hu⟩ : ∃ z, z = v.alloc (.cells #[.int .i64 0, .slice none 0 0] 25) := ⟨_, rfl⟩
            have b : Below v.heap.size v u := by rw [hu]; exact (Below.refl _ _).alloc (Nat.le_refl _) _
            have eu : v.heap.size < u.heap.size := by rw [hu]; simp
            have fu : w3.heap.size ≤ v.heap.size := (unhide hbw).size
            have hbw := hide ((unhide hbw).trans (b.mono (unhide hbw).size))
            have p0 := cell_later b p0
            have p1 := cell_later b p1
            have hD0 : u.cell? ⟨v.heap.size, 0, none⟩ = some (.int .i64 0) := by rw [hu]; simp [go_sem]
            have hD1 : u.cell? ⟨v.heap.size, 1, none⟩ = some (.slice none 0 0) := by rw [hu]; simp [go_sem]
            have hDf0 : u.frozen? ⟨v.heap.size, 0, none⟩ = false := by rw [hu]; simp [go_sem]
            have hDf1 : u.frozen? ⟨v.heap.size, 1, none⟩ = false := by rw [hu]; simp [go_sem]
            rw [← hu]
            obtain ⟨D, hDe⟩ : ∃ z, z = v.heap.size := ⟨_, rfl⟩
            rw [← hDe] at hD0 hD1 hDf0 hDf1 ⊢
            have zD : D < u.heap.size := by omega
            have yD : w3.heap.size ≤ D := by omega
            clear hu b eu fu hDe
            refine hK.out _ _ ?_ (fun hHeld => ?_)
            · exact ⟨p0, p1⟩
            clear hK K
            try simp only [List.getElem_toArray, List.getElem_cons_succ, List.getElem_cons_zero, Act.put, List.setIfInBounds_toArray, List.set_cons_zero, List.set_cons_succ]
            rw [← unhide hGo]
            exact goTo (N_13 D u hbw p0 p1 hD0 hD1 hDf0 hDf1 zD yD) (by kernel_rfl) (by kernel_rfl) (by rw [unhide ha0]; kernel_rfl)
        exact goTo (N_0 wd hbw p0 p1) (by kernel_rfl) (by kernel_rfl) rfl
      case rest =>
        obtain ⟨Da, ga, ca, ea, rfl, da0, da1, Cx, bx⟩ := hcut
        obtain ⟨wA, rfl⟩ : ∃ z, z = wc := ⟨_, rfl⟩
        replace bw := bw.trans (bx.mono bw.size)
        replace BLw := BLw.trans (bx.mono BLw.size)
        replace p0 := (bw.cell (p := ⟨w1.heap.size, 0, none⟩) lB).trans (unhide HP0)
        replace p1 := (bw.cell (p := ⟨w1.heap.size, 1, none⟩) lB).trans (unhide HP1)
        have HA := hide Cx
        clear Cx bx
        go_wp2_with fail
        go_cut [6] (fun s8 wx => ∃ (D g2 c2 e1 : Nat), s8 = .pointer (some ⟨D, 0, none⟩) ∧ wx.cell? ⟨D, 0, none⟩ = some (.int .i64 (m : Int)) ∧ wx.cell? ⟨D, 1, none⟩ = some (.slice (some ⟨g2, 0, none⟩) (Lc.length + 1) c2) ∧ ClzAt wx 0 (.slice (some ⟨g2, 0, none⟩) (Lc.length + 1) c2) (Lc ++ [⟨e1, 2, [1, -1]⟩]) ∧ Below wA.heap.size wA wx)
        case first =>
          clear BLw BL FitC HP0 HP1 HCB
          clear da0 da1 HA
          refine wp_region_held_drew (S := fun w' => w'.cell? ⟨w1.heap.size, 0, none⟩ = some (.int .i64 (m : Int)) ∧ w'.cell? ⟨w1.heap.size, 1, none⟩ = some (.slice a Lc.length cp)) (by kernel_rfl) ?_ (fun hHeld => ?_)
          · exact ⟨p0, p1⟩
          have HC0 := hide ((unhide HC).later bw).low
          have wlr : w1.heap.size < wA.heap.size := Nat.lt_of_lt_of_le lB bw.size
          have wpos : 0 < wA.heap.size := by omega
          have hLit : Hid (∀ x, x ∈ ([1, -1] : List Int) → W64 x) := by intro x hx; simp at hx; unfold W64; omega
          obtain ⟨wd, hwd⟩ : ∃ x, x = wA.drew := ⟨_, rfl⟩
          have hbw : Hid (Below wA.heap.size wA wd) := by show _; rw [hwd]; exact (Below.refl _ _).drew
          have p0 : wd.cell? ⟨w1.heap.size, 0, none⟩ = some (.int .i64 (m : Int)) := by rw [hwd]; exact p0
          have p1 : wd.cell? ⟨w1.heap.size, 1, none⟩ = some (.slice a Lc.length cp) := by rw [hwd]; exact p1
          rw [← hwd]
          (try rw [← hwd] at hHeld)
          clear hwd
          refine wpAnyH_take (i := 0) (v := ?_) rfl (by kernel_rfl) (by kernel_rfl) (by kernel_rfl) (fun _ _ _ h => h) (Or.inl ⟨by rfl, ?_⟩) (by assumption) ?_
          rotate_left
          · (intro w hSw; (try dsimp only at hSw); first | (go_simp; done) | (go_simp; with_reducible rfl))
          try simp only [List.getElem_toArray, List.getElem_cons_succ, List.getElem_cons_zero, Act.put, List.setIfInBounds_toArray, List.set_cons_zero, List.set_cons_succ]
          refine wpAnyH_take (i := 1) (v := ?_) rfl (by kernel_rfl) (by kernel_rfl) (by kernel_rfl) (fun _ _ _ h => h) (Or.inl ⟨by rfl, ?_⟩) (by assumption) ?_
          rotate_left
          · (intro w hSw; (try dsimp only at hSw); first | (go_simp; done) | (go_simp; with_reducible rfl))
          try simp only [List.getElem_toArray, List.getElem_cons_succ, List.getElem_cons_zero, Act.put, List.setIfInBounds_toArray, List.set_cons_zero, List.set_cons_succ]
          refine wpAnyH_take (i := 3) (v := ?_) rfl (by kernel_rfl) (by kernel_rfl) (by kernel_rfl) (fun _ _ _ h => h) (Or.inl ⟨by rfl, ?_⟩) (by assumption) ?_
          rotate_left
          · (intro w hSw; (try dsimp only at hSw); first | (go_simp; done) | (go_simp; with_reducible rfl))
          try simp only [List.getElem_toArray, List.getElem_cons_succ, List.getElem_cons_zero, Act.put, List.setIfInBounds_toArray, List.set_cons_zero, List.set_cons_succ]
          refine wpAnyH_take (i := 4) (v := ?_) rfl (by kernel_rfl) (by kernel_rfl) (by kernel_rfl) (fun _ _ _ h => h) (Or.inl ⟨by rfl, ?_⟩) (by assumption) ?_
          rotate_left
          · (intro w hSw; (try dsimp only at hSw); first | (go_simp; done) | (go_simp; with_reducible rfl))
          try simp only [List.getElem_toArray, List.getElem_cons_succ, List.getElem_cons_zero, Act.put, List.setIfInBounds_toArray, List.set_cons_zero, List.set_cons_succ]
          refine withGo (fun Go a0 hGo ha0 => ?_)
          have N_2_5_6_7_8_10 : ∀ (X g5 c5 E T g8 c8 D : Nat) (v : World) (hbw : Hid (Below wA.heap.size wA v)) (p0 : v.cell? ⟨w1.heap.size, 0, none⟩ = some (.int .i64 (m : Int))) (p1 : v.cell? ⟨w1.heap.size, 1, none⟩ = some (.slice a Lc.length cp)) (hE : Hid (Clz.Ok (⟨E, 2, [1, -1]⟩ : Clz) v 0)) (zE : E < v.heap.size) (yE : wA.heap.size ≤ E) (hF : Hid (v.ownsRow wA.heap.size 30 1 (.slice (some ⟨g8, 0, none⟩) (Lc.length + 1) c8) (Lc.length + 1) (scells (Lc ++ [(⟨E, 2, [1, -1]⟩ : Clz)])))) (zF : g8 < v.heap.size) (yF : wA.heap.size ≤ g8) (hD0 : v.cell? ⟨D, 0, none⟩ = some (.int .i64 0)) (hD1 : v.cell? ⟨D, 1, none⟩ = some (.slice none 0 0)) (hDf0 : v.frozen? ⟨D, 0, none⟩ = false) (hDf1 : v.frozen? ⟨D, 1, none⟩ = false) (zD : D < v.heap.size) (yD : wA.heap.size ≤ D) (nEF : E ≠ g8) (nED : E ≠ D) (nFD : g8 ≠ D), Go 1 #[true, true, true, true, true, true, true, true, true, true, true, false] (((((((a0.put (some 69) (.slice (some ⟨X, 0, none⟩) 0 0)).put (some 72) (.slice (some ⟨g5, 0, none⟩) Lc.length c5)).put (some 73) (.slice (some ⟨E, 0, none⟩) 2 2)).put (some 74) (.slice (some ⟨T, 0, none⟩) 1 1)).put (some 75) (.slice (some ⟨g8, 0, none⟩) (Lc.length + 1) c8)).put (some 6) (.pointer (some ⟨D, 0, none⟩))).put (some 76) (.agg #[.int .i64 (m : Int), .slice (some ⟨g8, 0, none⟩) (Lc.length + 1) c8])) v := by
            intro X g5 c5 E T g8 c8 D v hbw p0 p1 hE zE yE hF zF yF hD0 hD1 hDf0 hDf1 zD yD nEF nED nFD
            rw [unhide hGo, unhide ha0]
            try simp only [List.getElem_toArray, List.getElem_cons_succ, List.getElem_cons_zero, Act.put, List.setIfInBounds_toArray, List.set_cons_zero, List.set_cons_succ]
            have hHeld : v.cell? ⟨w1.heap.size, 0, none⟩ = some (.int .i64 (m : Int)) ∧ v.cell? ⟨w1.heap.size, 1, none⟩ = some (.slice a Lc.length cp) := ⟨p0, p1⟩
            refine wpAnyH_ready (rs := [11]) (by kernel_rfl) (by simp) ?_
            refine AllReadyH.cons rfl (fun K hK => ?_) AllReadyH.nil
            go_simp
            refine hK.out _ _ ?_ (fun hHeld => ?_)
            · exact ⟨by rw [World.cell?_setCell_other _ _ _ _ (by simp <;> omega), World.cell?_setCell_other _ _ _ _ (by simp <;> omega)]; exact p0, by rw [World.cell?_setCell_other _ _ _ _ (by simp <;> omega), World.cell?_setCell_other _ _ _ _ (by simp <;> omega)]; exact p1⟩
            clear hK K
            try simp only [List.getElem_toArray, List.getElem_cons_succ, List.getElem_cons_zero, Act.put, List.setIfInBounds_toArray, List.set_cons_zero, List.set_cons_succ]
            refine wpAnyH_done (by kernel_rfl) ?_ _
            have CF : ClzAt v 0 (.slice (some ⟨g8, 0, none⟩) (Lc.length + 1) c8) (Lc ++ [(⟨E, 2, [1, -1]⟩ : Clz)]) := own_clz (unhide hF) (by omega) (fun q hq => by
              rcases List.mem_append.1 hq with h | h
              · exact ((unhide HC0).1 q h).later (unhide hbw)
              · simp at h; subst h; exact unhide hE)
            have CG : ∀ q, q ∈ Lc ++ [(⟨E, 2, [1, -1]⟩ : Clz)] → q.g ≠ D := fun q hq => by
              rcases List.mem_append.1 hq with h | h
              · have := ((unhide HC0).1 q h).2.1; omega
              · simp at h; subst h; exact nED
            go_wp2_with fail
            go_meet
            exact ⟨D, g8, c8, E, rfl, by rw [World.cell?_setCell_other _ _ _ _ (by simp)]; exact World.cell?_setCell_same _ _ _ hD0, World.cell?_setCell_same _ _ _ (by rw [World.cell?_setCell_other _ _ _ _ (by simp)]; exact hD1), (CF.set CG (by simp [Value.ownBlock]; omega)).set CG (by simp [Value.ownBlock]; omega), (((unhide hbw).setCell yD _).setCell yD _)⟩
          have N_2_5_6_7_8 : ∀ (X g5 c5 E T g8 c8 : Nat) (v : World) (hbw : Hid (Below wA.heap.size wA v)) (p0 : v.cell? ⟨w1.heap.size, 0, none⟩ = some (.int .i64 (m : Int))) (p1 : v.cell? ⟨w1.heap.size, 1, none⟩ = some (.slice a Lc.length cp)) (hE : Hid (Clz.Ok (⟨E, 2, [1, -1]⟩ : Clz) v 0)) (zE : E < v.heap.size) (yE : wA.heap.size ≤ E) (hF : Hid (v.ownsRow wA.heap.size 30 1 (.slice (some ⟨g8, 0, none⟩) (Lc.length + 1) c8) (Lc.length + 1) (scells (Lc ++ [(⟨E, 2, [1, -1]⟩ : Clz)])))) (zF : g8 < v.heap.size) (yF : wA.heap.size ≤ g8) (nEF : E ≠ g8), Go 2 #[true, true, true, true, true, true, true, true, true, true, false, false] ((((((a0.put (some 69) (.slice (some ⟨X, 0, none⟩) 0 0)).put (some 72) (.slice (some ⟨g5, 0, none⟩) Lc.length c5)).put (some 73) (.slice (some ⟨E, 0, none⟩) 2 2)).put (some 74) (.slice (some ⟨T, 0, none⟩) 1 1)).put (some 75) (.slice (some ⟨g8, 0, none⟩) (Lc.length + 1) c8)).put (some 76) (.agg #[.int .i64 (m : Int), .slice (some ⟨g8, 0, none⟩) (Lc.length + 1) c8])) v := by
            intro X g5 c5 E T g8 c8 v hbw p0 p1 hE zE yE hF zF yF nEF
            rw [unhide hGo, unhide ha0]
            try simp only [List.getElem_toArray, List.getElem_cons_succ, List.getElem_cons_zero, Act.put, List.setIfInBounds_toArray, List.set_cons_zero, List.set_cons_succ]
            have hHeld : v.cell? ⟨w1.heap.size, 0, none⟩ = some (.int .i64 (m : Int)) ∧ v.cell? ⟨w1.heap.size, 1, none⟩ = some (.slice a Lc.length cp) := ⟨p0, p1⟩
            refine wpAnyH_ready (rs := [10]) (by kernel_rfl) (by simp) ?_
            refine AllReadyH.cons rfl (fun K hK => ?_) AllReadyH.nil
            go_simp
            obtain ⟨u, hu⟩ : ∃ z, z = v.alloc (.cells #[.int .i64 0, .slice none 0 0] 25) := ⟨_, rfl⟩
            have b : Below v.heap.size v u := by rw [hu]; exact (Below.refl _ _).alloc (Nat.le_refl _) _
            have eu : v.heap.size < u.heap.size := by rw [hu]; simp
            have fu : wA.heap.size ≤ v.heap.size := (unhide hbw).size
            have hE := hide ((unhide hE).later b)
            have zE : E < u.heap.size := Nat.lt_of_lt_of_le zE b.size
            have hF := hide (World.ownsRow.kept (w' := u) (unhide hF) (grown_below b) (by simp [Value.ownBlock]))
            have zF : g8 < u.heap.size := Nat.lt_of_lt_of_le zF b.size
            have hbw := hide ((unhide hbw).trans (b.mono (unhide hbw).size))
            have p0 := cell_later b p0
            have p1 := cell_later b p1
            have hD0 : u.cell? ⟨v.heap.size, 0, none⟩ = some (.int .i64 0) := by rw [hu]; simp [go_sem]
            have hD1 : u.cell? ⟨v.heap.size, 1, none⟩ = some (.slice none 0 0) := by rw [hu]; simp [go_sem]
            have hDf0 : u.frozen? ⟨v.heap.size, 0, none⟩ = false := by rw [hu]; simp [go_sem]
            have hDf1 : u.frozen? ⟨v.heap.size, 1, none⟩ = false := by rw [hu]; simp [go_sem]
            have nED : E ≠ v.heap.size := by omega
            have nFD : g8 ≠ v.heap.size := by omega
            rw [← hu]
            obtain ⟨D, hDe⟩ : ∃ z, z = v.heap.size := ⟨_, rfl⟩
            rw [← hDe] at hD0 hD1 hDf0 hDf1 nED nFD ⊢
            have zD : D < u.heap.size := by omega
            have yD : wA.heap.size ≤ D := by omega
            clear hu b eu fu hDe
            refine hK.out _ _ ?_ (fun hHeld => ?_)
            · exact ⟨p0, p1⟩
            clear hK K
            try simp only [List.getElem_toArray, List.getElem_cons_succ, List.getElem_cons_zero, Act.put, List.setIfInBounds_toArray, List.set_cons_zero, List.set_cons_succ]
            rw [← unhide hGo]
            exact goTo (N_2_5_6_7_8_10 X g5 c5 E T g8 c8 D u hbw p0 p1 hE zE yE hF zF yF hD0 hD1 hDf0 hDf1 zD yD nEF nED nFD) (by kernel_rfl) (by kernel_rfl) (by rw [unhide ha0]; kernel_rfl)
          have N_2_5_6_7_10 : ∀ (X g5 c5 E T D : Nat) (v : World) (hbw : Hid (Below wA.heap.size wA v)) (p0 : v.cell? ⟨w1.heap.size, 0, none⟩ = some (.int .i64 (m : Int))) (p1 : v.cell? ⟨w1.heap.size, 1, none⟩ = some (.slice a Lc.length cp)) (hO : Hid (v.ownsRow wA.heap.size 30 1 (.slice (some ⟨g5, 0, none⟩) Lc.length c5) Lc.length (scells Lc))) (zO : g5 < v.heap.size) (yO : wA.heap.size ≤ g5) (hE : Hid (Clz.Ok (⟨E, 2, [1, -1]⟩ : Clz) v 0)) (zE : E < v.heap.size) (yE : wA.heap.size ≤ E) (hT : v.cell? ⟨T, 0, none⟩ = some (.slice (some ⟨E, 0, none⟩) 2 2)) (zT : T < v.heap.size) (yT : wA.heap.size ≤ T) (hD0 : v.cell? ⟨D, 0, none⟩ = some (.int .i64 0)) (hD1 : v.cell? ⟨D, 1, none⟩ = some (.slice none 0 0)) (hDf0 : v.frozen? ⟨D, 0, none⟩ = false) (hDf1 : v.frozen? ⟨D, 1, none⟩ = false) (zD : D < v.heap.size) (yD : wA.heap.size ≤ D) (nOE : g5 ≠ E) (nOT : g5 ≠ T) (nOD : g5 ≠ D) (nET : E ≠ T) (nED : E ≠ D) (nTD : T ≠ D), Go 3 #[true, true, true, true, true, true, true, true, false, false, true, false] (((((a0.put (some 69) (.slice (some ⟨X, 0, none⟩) 0 0)).put (some 72) (.slice (some ⟨g5, 0, none⟩) Lc.length c5)).put (some 73) (.slice (some ⟨E, 0, none⟩) 2 2)).put (some 74) (.slice (some ⟨T, 0, none⟩) 1 1)).put (some 6) (.pointer (some ⟨D, 0, none⟩))) v := by
            intro X g5 c5 E T D v hbw p0 p1 hO zO yO hE zE yE hT zT yT hD0 hD1 hDf0 hDf1 zD yD nOE nOT nOD nET nED nTD
            rw [unhide hGo, unhide ha0]
            try simp only [List.getElem_toArray, List.getElem_cons_succ, List.getElem_cons_zero, Act.put, List.setIfInBounds_toArray, List.set_cons_zero, List.set_cons_succ]
            have hHeld : v.cell? ⟨w1.heap.size, 0, none⟩ = some (.int .i64 (m : Int)) ∧ v.cell? ⟨w1.heap.size, 1, none⟩ = some (.slice a Lc.length cp) := ⟨p0, p1⟩
            refine wpAnyH_ready (rs := [8]) (by kernel_rfl) (by simp) ?_
            refine AllReadyH.cons rfl (fun K hK => ?_) AllReadyH.nil
            apply step_clz_one (Ls := Lc) (q := (⟨E, 2, [1, -1]⟩ : Clz)) (base := wA.heap.size)
            case hgd => rfl
            case ho => rfl
            case hty => rfl
            case hs => rfl
            case hown => exact unhide hO
            case hbase => exact (unhide hbw).size
            case hx => rfl
            case hT => exact hT
            case hl => omega
            case' h => intro g8 c8 u o8 gr8 at8 lt8
            have mv8 : Mov g5 _ u := mov_of_grown gr8
            have hE := hide ((unhide hE).grown (grown_mov mv8) (by simp only [ne_eq, Option.some.injEq]; omega))
            have zE : E < u.heap.size := Nat.lt_of_lt_of_le zE mv8.size
            have hD0 := mv8.cell hD0 (by simp only; omega)
            have hD1 := mv8.cell hD1 (by simp only; omega)
            have hDf0 := (World.frozen?_of_block (w := v) (a := ⟨D, 0, none⟩) (mv8.2.2.2.2 D zD (by omega))).trans hDf0
            have hDf1 := (World.frozen?_of_block (w := v) (a := ⟨D, 1, none⟩) (mv8.2.2.2.2 D zD (by omega))).trans hDf1
            have zD : D < u.heap.size := Nat.lt_of_lt_of_le zD mv8.size
            have p0 := mv8.cell p0 (by simp only; omega)
            have p1 := mv8.cell p1 (by simp only; omega)
            have hbw := hide ((unhide hbw).trans (mv8.below yO (unhide hbw).size))
            have hF := hide o8
            have zF := lt8
            have yF : wA.heap.size ≤ g8 := own_base o8
            have nEF : E ≠ g8 := by rcases at8 with e | e <;> omega
            have nFD : g8 ≠ D := by rcases at8 with e | e <;> omega
            clear o8 gr8 at8 lt8 mv8
            refine hK.out _ _ ?_ (fun hHeld => ?_)
            · exact ⟨p0, p1⟩
            clear hK K
            try simp only [List.getElem_toArray, List.getElem_cons_succ, List.getElem_cons_zero, Act.put, List.setIfInBounds_toArray, List.set_cons_zero, List.set_cons_succ]
            refine wpAnyH_take (i := 9) (v := ?_) rfl (by kernel_rfl) (by kernel_rfl) (by kernel_rfl) (fun _ _ _ h => h) (Or.inl ⟨by rfl, ?_⟩) (by assumption) ?_
            rotate_left
            · (intro w hSw; (try dsimp only at hSw); first | (go_simp; done) | (go_simp; with_reducible rfl))
            try simp only [List.getElem_toArray, List.getElem_cons_succ, List.getElem_cons_zero, Act.put, List.setIfInBounds_toArray, List.set_cons_zero, List.set_cons_succ]
            rw [← unhide hGo]
            exact goTo (N_2_5_6_7_8_10 X g5 c5 E T g8 c8 D u hbw p0 p1 hE zE yE hF zF yF hD0 hD1 hDf0 hDf1 zD yD nEF nED nFD) (by kernel_rfl) (by kernel_rfl) (by rw [unhide ha0]; kernel_rfl)
          have N_2_5_6_7 : ∀ (X g5 c5 E T : Nat) (v : World) (hbw : Hid (Below wA.heap.size wA v)) (p0 : v.cell? ⟨w1.heap.size, 0, none⟩ = some (.int .i64 (m : Int))) (p1 : v.cell? ⟨w1.heap.size, 1, none⟩ = some (.slice a Lc.length cp)) (hO : Hid (v.ownsRow wA.heap.size 30 1 (.slice (some ⟨g5, 0, none⟩) Lc.length c5) Lc.length (scells Lc))) (zO : g5 < v.heap.size) (yO : wA.heap.size ≤ g5) (hE : Hid (Clz.Ok (⟨E, 2, [1, -1]⟩ : Clz) v 0)) (zE : E < v.heap.size) (yE : wA.heap.size ≤ E) (hT : v.cell? ⟨T, 0, none⟩ = some (.slice (some ⟨E, 0, none⟩) 2 2)) (zT : T < v.heap.size) (yT : wA.heap.size ≤ T) (nOE : g5 ≠ E) (nOT : g5 ≠ T) (nET : E ≠ T), Go 4 #[true, true, true, true, true, true, true, true, false, false, false, false] ((((a0.put (some 69) (.slice (some ⟨X, 0, none⟩) 0 0)).put (some 72) (.slice (some ⟨g5, 0, none⟩) Lc.length c5)).put (some 73) (.slice (some ⟨E, 0, none⟩) 2 2)).put (some 74) (.slice (some ⟨T, 0, none⟩) 1 1)) v := by
            intro X g5 c5 E T v hbw p0 p1 hO zO yO hE zE yE hT zT yT nOE nOT nET
            rw [unhide hGo, unhide ha0]
            try simp only [List.getElem_toArray, List.getElem_cons_succ, List.getElem_cons_zero, Act.put, List.setIfInBounds_toArray, List.set_cons_zero, List.set_cons_succ]
            have hHeld : v.cell? ⟨w1.heap.size, 0, none⟩ = some (.int .i64 (m : Int)) ∧ v.cell? ⟨w1.heap.size, 1, none⟩ = some (.slice a Lc.length cp) := ⟨p0, p1⟩
            refine wpAnyH_ready (rs := [8, 10]) (by kernel_rfl) (by simp) ?_
            refine AllReadyH.cons rfl (fun K hK => ?_) (AllReadyH.cons rfl (fun K hK => ?_) AllReadyH.nil)
            · apply step_clz_one (Ls := Lc) (q := (⟨E, 2, [1, -1]⟩ : Clz)) (base := wA.heap.size)
              case hgd => rfl
              case ho => rfl
              case hty => rfl
              case hs => rfl
              case hown => exact unhide hO
              case hbase => exact (unhide hbw).size
              case hx => rfl
              case hT => exact hT
              case hl => omega
              case' h => intro g8 c8 u o8 gr8 at8 lt8
              have mv8 : Mov g5 _ u := mov_of_grown gr8
              have hE := hide ((unhide hE).grown (grown_mov mv8) (by simp only [ne_eq, Option.some.injEq]; omega))
              have zE : E < u.heap.size := Nat.lt_of_lt_of_le zE mv8.size
              have p0 := mv8.cell p0 (by simp only; omega)
              have p1 := mv8.cell p1 (by simp only; omega)
              have hbw := hide ((unhide hbw).trans (mv8.below yO (unhide hbw).size))
              have hF := hide o8
              have zF := lt8
              have yF : wA.heap.size ≤ g8 := own_base o8
              have nEF : E ≠ g8 := by rcases at8 with e | e <;> omega
              clear o8 gr8 at8 lt8 mv8
              refine hK.out _ _ ?_ (fun hHeld => ?_)
              · exact ⟨p0, p1⟩
              clear hK K
              try simp only [List.getElem_toArray, List.getElem_cons_succ, List.getElem_cons_zero, Act.put, List.setIfInBounds_toArray, List.set_cons_zero, List.set_cons_succ]
              refine wpAnyH_take (i := 9) (v := ?_) rfl (by kernel_rfl) (by kernel_rfl) (by kernel_rfl) (fun _ _ _ h => h) (Or.inl ⟨by rfl, ?_⟩) (by assumption) ?_
              rotate_left
              · (intro w hSw; (try dsimp only at hSw); first | (go_simp; done) | (go_simp; with_reducible rfl))
              try simp only [List.getElem_toArray, List.getElem_cons_succ, List.getElem_cons_zero, Act.put, List.setIfInBounds_toArray, List.set_cons_zero, List.set_cons_succ]
              rw [← unhide hGo]
              exact goTo (N_2_5_6_7_8 X g5 c5 E T g8 c8 u hbw p0 p1 hE zE yE hF zF yF nEF) (by kernel_rfl) (by kernel_rfl) (by rw [unhide ha0]; kernel_rfl)
            · go_simp
              obtain ⟨u, hu⟩ : ∃ z, z = v.alloc (.cells #[.int .i64 0, .slice none 0 0] 25) := ⟨_, rfl⟩
              have b : Below v.heap.size v u := by rw [hu]; exact (Below.refl _ _).alloc (Nat.le_refl _) _
              have eu : v.heap.size < u.heap.size := by rw [hu]; simp
              have fu : wA.heap.size ≤ v.heap.size := (unhide hbw).size
              have hO := hide (World.ownsRow.kept (w' := u) (unhide hO) (grown_below b) (by simp [Value.ownBlock]))
              have zO : g5 < u.heap.size := Nat.lt_of_lt_of_le zO b.size
              have hE := hide ((unhide hE).later b)
              have zE : E < u.heap.size := Nat.lt_of_lt_of_le zE b.size
              have hT := cell_later b hT
              have zT : T < u.heap.size := Nat.lt_of_lt_of_le zT b.size
              have hbw := hide ((unhide hbw).trans (b.mono (unhide hbw).size))
              have p0 := cell_later b p0
              have p1 := cell_later b p1
              have hD0 : u.cell? ⟨v.heap.size, 0, none⟩ = some (.int .i64 0) := by rw [hu]; simp [go_sem]
              have hD1 : u.cell? ⟨v.heap.size, 1, none⟩ = some (.slice none 0 0) := by rw [hu]; simp [go_sem]
              have hDf0 : u.frozen? ⟨v.heap.size, 0, none⟩ = false := by rw [hu]; simp [go_sem]
              have hDf1 : u.frozen? ⟨v.heap.size, 1, none⟩ = false := by rw [hu]; simp [go_sem]
              have nOD : g5 ≠ v.heap.size := by omega
              have nED : E ≠ v.heap.size := by omega
              have nTD : T ≠ v.heap.size := by omega
              rw [← hu]
              obtain ⟨D, hDe⟩ : ∃ z, z = v.heap.size := ⟨_, rfl⟩
              rw [← hDe] at hD0 hD1 hDf0 hDf1 nOD nED nTD ⊢
              have zD : D < u.heap.size := by omega
              have yD : wA.heap.size ≤ D := by omega
              clear hu b eu fu hDe
              refine hK.out _ _ ?_ (fun hHeld => ?_)
              · exact ⟨p0, p1⟩
              clear hK K
              try simp only [List.getElem_toArray, List.getElem_cons_succ, List.getElem_cons_zero, Act.put, List.setIfInBounds_toArray, List.set_cons_zero, List.set_cons_succ]
              rw [← unhide hGo]
              exact goTo (N_2_5_6_7_10 X g5 c5 E T D u hbw p0 p1 hO zO yO hE zE yE hT zT yT hD0 hD1 hDf0 hDf1 zD yD nOE nOT nOD nET nED nTD) (by kernel_rfl) (by kernel_rfl) (by rw [unhide ha0]; kernel_rfl)
          have N_2_5_6_10 : ∀ (X g5 c5 E D : Nat) (v : World) (hbw : Hid (Below wA.heap.size wA v)) (p0 : v.cell? ⟨w1.heap.size, 0, none⟩ = some (.int .i64 (m : Int))) (p1 : v.cell? ⟨w1.heap.size, 1, none⟩ = some (.slice a Lc.length cp)) (hO : Hid (v.ownsRow wA.heap.size 30 1 (.slice (some ⟨g5, 0, none⟩) Lc.length c5) Lc.length (scells Lc))) (zO : g5 < v.heap.size) (yO : wA.heap.size ≤ g5) (hE : Hid (Clz.Ok (⟨E, 2, [1, -1]⟩ : Clz) v 0)) (zE : E < v.heap.size) (yE : wA.heap.size ≤ E) (hD0 : v.cell? ⟨D, 0, none⟩ = some (.int .i64 0)) (hD1 : v.cell? ⟨D, 1, none⟩ = some (.slice none 0 0)) (hDf0 : v.frozen? ⟨D, 0, none⟩ = false) (hDf1 : v.frozen? ⟨D, 1, none⟩ = false) (zD : D < v.heap.size) (yD : wA.heap.size ≤ D) (nOE : g5 ≠ E) (nOD : g5 ≠ D) (nED : E ≠ D), Go 4 #[true, true, true, true, true, true, true, false, false, false, true, false] ((((a0.put (some 69) (.slice (some ⟨X, 0, none⟩) 0 0)).put (some 72) (.slice (some ⟨g5, 0, none⟩) Lc.length c5)).put (some 73) (.slice (some ⟨E, 0, none⟩) 2 2)).put (some 6) (.pointer (some ⟨D, 0, none⟩))) v := by
            intro X g5 c5 E D v hbw p0 p1 hO zO yO hE zE yE hD0 hD1 hDf0 hDf1 zD yD nOE nOD nED
            rw [unhide hGo, unhide ha0]
            try simp only [List.getElem_toArray, List.getElem_cons_succ, List.getElem_cons_zero, Act.put, List.setIfInBounds_toArray, List.set_cons_zero, List.set_cons_succ]
            have hHeld : v.cell? ⟨w1.heap.size, 0, none⟩ = some (.int .i64 (m : Int)) ∧ v.cell? ⟨w1.heap.size, 1, none⟩ = some (.slice a Lc.length cp) := ⟨p0, p1⟩
            refine wpAnyH_ready (rs := [7]) (by kernel_rfl) (by simp) ?_
            refine AllReadyH.cons rfl (fun K hK => ?_) AllReadyH.nil
            go_simp
            obtain ⟨u, hu⟩ : ∃ z, z = v.alloc (.cells #[.slice (some ⟨E, 0, none⟩) 2 2] 30) := ⟨_, rfl⟩
            have b : Below v.heap.size v u := by rw [hu]; exact (Below.refl _ _).alloc (Nat.le_refl _) _
            have eu : v.heap.size < u.heap.size := by rw [hu]; simp
            have fu : wA.heap.size ≤ v.heap.size := (unhide hbw).size
            have hO := hide (World.ownsRow.kept (w' := u) (unhide hO) (grown_below b) (by simp [Value.ownBlock]))
            have zO : g5 < u.heap.size := Nat.lt_of_lt_of_le zO b.size
            have hE := hide ((unhide hE).later b)
            have zE : E < u.heap.size := Nat.lt_of_lt_of_le zE b.size
            have hD0 := cell_later b hD0
            have hD1 := cell_later b hD1
            have hDf0 := (b.frozen (p := ⟨D, 0, none⟩) zD).trans hDf0
            have hDf1 := (b.frozen (p := ⟨D, 1, none⟩) zD).trans hDf1
            have zD : D < u.heap.size := Nat.lt_of_lt_of_le zD b.size
            have hbw := hide ((unhide hbw).trans (b.mono (unhide hbw).size))
            have p0 := cell_later b p0
            have p1 := cell_later b p1
            have hT : u.cell? ⟨v.heap.size, 0, none⟩ = some (.slice (some ⟨E, 0, none⟩) 2 2) := by rw [hu]; simp [go_sem]
            have nOT : g5 ≠ v.heap.size := by omega
            have nET : E ≠ v.heap.size := by omega
            have nTD : v.heap.size ≠ D := by omega
            rw [← hu]
            obtain ⟨T, hTe⟩ : ∃ z, z = v.heap.size := ⟨_, rfl⟩
            rw [← hTe] at hT nOT nET nTD ⊢
            have zT : T < u.heap.size := by omega
            have yT : wA.heap.size ≤ T := by omega
            clear hu b eu fu hTe
            refine hK.out _ _ ?_ (fun hHeld => ?_)
            · exact ⟨p0, p1⟩
            clear hK K
            try simp only [List.getElem_toArray, List.getElem_cons_succ, List.getElem_cons_zero, Act.put, List.setIfInBounds_toArray, List.set_cons_zero, List.set_cons_succ]
            rw [← unhide hGo]
            exact goTo (N_2_5_6_7_10 X g5 c5 E T D u hbw p0 p1 hO zO yO hE zE yE hT zT yT hD0 hD1 hDf0 hDf1 zD yD nOE nOT nOD nET nED nTD) (by kernel_rfl) (by kernel_rfl) (by rw [unhide ha0]; kernel_rfl)
          have N_2_6_7_10 : ∀ (X E T D : Nat) (v : World) (hbw : Hid (Below wA.heap.size wA v)) (p0 : v.cell? ⟨w1.heap.size, 0, none⟩ = some (.int .i64 (m : Int))) (p1 : v.cell? ⟨w1.heap.size, 1, none⟩ = some (.slice a Lc.length cp)) (hX : Hid (v.heap[X]? = some (.cells #[] 30 (0, 0)))) (zX : X < v.heap.size) (yX : wA.heap.size ≤ X) (hE : Hid (Clz.Ok (⟨E, 2, [1, -1]⟩ : Clz) v 0)) (zE : E < v.heap.size) (yE : wA.heap.size ≤ E) (hT : v.cell? ⟨T, 0, none⟩ = some (.slice (some ⟨E, 0, none⟩) 2 2)) (zT : T < v.heap.size) (yT : wA.heap.size ≤ T) (hD0 : v.cell? ⟨D, 0, none⟩ = some (.int .i64 0)) (hD1 : v.cell? ⟨D, 1, none⟩ = some (.slice none 0 0)) (hDf0 : v.frozen? ⟨D, 0, none⟩ = false) (hDf1 : v.frozen? ⟨D, 1, none⟩ = false) (zD : D < v.heap.size) (yD : wA.heap.size ≤ D) (nXE : X ≠ E) (nXT : X ≠ T) (nXD : X ≠ D) (nET : E ≠ T) (nED : E ≠ D) (nTD : T ≠ D), Go 4 #[true, true, true, true, true, false, true, true, false, false, true, false] ((((a0.put (some 69) (.slice (some ⟨X, 0, none⟩) 0 0)).put (some 73) (.slice (some ⟨E, 0, none⟩) 2 2)).put (some 74) (.slice (some ⟨T, 0, none⟩) 1 1)).put (some 6) (.pointer (some ⟨D, 0, none⟩))) v := by
            intro X E T D v hbw p0 p1 hX zX yX hE zE yE hT zT yT hD0 hD1 hDf0 hDf1 zD yD nXE nXT nXD nET nED nTD
            rw [unhide hGo, unhide ha0]
            try simp only [List.getElem_toArray, List.getElem_cons_succ, List.getElem_cons_zero, Act.put, List.setIfInBounds_toArray, List.set_cons_zero, List.set_cons_succ]
            have hHeld : v.cell? ⟨w1.heap.size, 0, none⟩ = some (.int .i64 (m : Int)) ∧ v.cell? ⟨w1.heap.size, 1, none⟩ = some (.slice a Lc.length cp) := ⟨p0, p1⟩
            refine wpAnyH_ready (rs := [5]) (by kernel_rfl) (by simp) ?_
            refine AllReadyH.cons rfl (fun K hK => ?_) AllReadyH.nil
            apply step_clz_copy (R := 0) (Ls := Lc) (base := wA.heap.size)
            case hgd => rfl
            case ho => rfl
            case hty => rfl
            case hs => rfl
            case hX => exact unhide hX
            case hbX => exact yX
            case hbase => exact (unhide hbw).size
            case hx => rfl
            case hc => exact (unhide HC0).later (unhide hbw)
            case hl => omega
            case' h => intro g5 c5 u o5 gr5 at5 lt5
            have mv5 : Mov X _ u := mov_of_grown gr5
            have hE := hide ((unhide hE).grown (grown_mov mv5) (by simp only [ne_eq, Option.some.injEq]; omega))
            have zE : E < u.heap.size := Nat.lt_of_lt_of_le zE mv5.size
            have hT := mv5.cell hT (by simp only; omega)
            have zT : T < u.heap.size := Nat.lt_of_lt_of_le zT mv5.size
            have hD0 := mv5.cell hD0 (by simp only; omega)
            have hD1 := mv5.cell hD1 (by simp only; omega)
            have hDf0 := (World.frozen?_of_block (w := v) (a := ⟨D, 0, none⟩) (mv5.2.2.2.2 D zD (by omega))).trans hDf0
            have hDf1 := (World.frozen?_of_block (w := v) (a := ⟨D, 1, none⟩) (mv5.2.2.2.2 D zD (by omega))).trans hDf1
            have zD : D < u.heap.size := Nat.lt_of_lt_of_le zD mv5.size
            have p0 := mv5.cell p0 (by simp only; omega)
            have p1 := mv5.cell p1 (by simp only; omega)
            have hbw := hide ((unhide hbw).trans (mv5.below yX (unhide hbw).size))
            have hO := hide o5
            have zO := lt5
            have yO : wA.heap.size ≤ g5 := own_base o5
            have nOE : g5 ≠ E := by rcases at5 with e | e <;> omega
            have nOT : g5 ≠ T := by rcases at5 with e | e <;> omega
            have nOD : g5 ≠ D := by rcases at5 with e | e <;> omega
            clear o5 gr5 at5 lt5 mv5
            refine hK.out _ _ ?_ (fun hHeld => ?_)
            · exact ⟨p0, p1⟩
            clear hK K
            try simp only [List.getElem_toArray, List.getElem_cons_succ, List.getElem_cons_zero, Act.put, List.setIfInBounds_toArray, List.set_cons_zero, List.set_cons_succ]
            rw [← unhide hGo]
            exact goTo (N_2_5_6_7_10 X g5 c5 E T D u hbw p0 p1 hO zO yO hE zE yE hT zT yT hD0 hD1 hDf0 hDf1 zD yD nOE nOT nOD nET nED nTD) (by kernel_rfl) (by kernel_rfl) (by rw [unhide ha0]; kernel_rfl)
          have N_2_5_6 : ∀ (X g5 c5 E : Nat) (v : World) (hbw : Hid (Below wA.heap.size wA v)) (p0 : v.cell? ⟨w1.heap.size, 0, none⟩ = some (.int .i64 (m : Int))) (p1 : v.cell? ⟨w1.heap.size, 1, none⟩ = some (.slice a Lc.length cp)) (hO : Hid (v.ownsRow wA.heap.size 30 1 (.slice (some ⟨g5, 0, none⟩) Lc.length c5) Lc.length (scells Lc))) (zO : g5 < v.heap.size) (yO : wA.heap.size ≤ g5) (hE : Hid (Clz.Ok (⟨E, 2, [1, -1]⟩ : Clz) v 0)) (zE : E < v.heap.size) (yE : wA.heap.size ≤ E) (nOE : g5 ≠ E), Go 5 #[true, true, true, true, true, true, true, false, false, false, false, false] (((a0.put (some 69) (.slice (some ⟨X, 0, none⟩) 0 0)).put (some 72) (.slice (some ⟨g5, 0, none⟩) Lc.length c5)).put (some 73) (.slice (some ⟨E, 0, none⟩) 2 2)) v := by
            intro X g5 c5 E v hbw p0 p1 hO zO yO hE zE yE nOE
            rw [unhide hGo, unhide ha0]
            try simp only [List.getElem_toArray, List.getElem_cons_succ, List.getElem_cons_zero, Act.put, List.setIfInBounds_toArray, List.set_cons_zero, List.set_cons_succ]
            have hHeld : v.cell? ⟨w1.heap.size, 0, none⟩ = some (.int .i64 (m : Int)) ∧ v.cell? ⟨w1.heap.size, 1, none⟩ = some (.slice a Lc.length cp) := ⟨p0, p1⟩
            refine wpAnyH_ready (rs := [7, 10]) (by kernel_rfl) (by simp) ?_
            refine AllReadyH.cons rfl (fun K hK => ?_) (AllReadyH.cons rfl (fun K hK => ?_) AllReadyH.nil)
            · go_simp
              obtain ⟨u, hu⟩ : ∃ z, z = v.alloc (.cells #[.slice (some ⟨E, 0, none⟩) 2 2] 30) := ⟨_, rfl⟩
              have b : Below v.heap.size v u := by rw [hu]; exact (Below.refl _ _).alloc (Nat.le_refl _) _
              have eu : v.heap.size < u.heap.size := by rw [hu]; simp
              have fu : wA.heap.size ≤ v.heap.size := (unhide hbw).size
              have hO := hide (World.ownsRow.kept (w' := u) (unhide hO) (grown_below b) (by simp [Value.ownBlock]))
              have zO : g5 < u.heap.size := Nat.lt_of_lt_of_le zO b.size
              have hE := hide ((unhide hE).later b)
              have zE : E < u.heap.size := Nat.lt_of_lt_of_le zE b.size
              have hbw := hide ((unhide hbw).trans (b.mono (unhide hbw).size))
              have p0 := cell_later b p0
              have p1 := cell_later b p1
              have hT : u.cell? ⟨v.heap.size, 0, none⟩ = some (.slice (some ⟨E, 0, none⟩) 2 2) := by rw [hu]; simp [go_sem]
              have nOT : g5 ≠ v.heap.size := by omega
              have nET : E ≠ v.heap.size := by omega
              rw [← hu]
              obtain ⟨T, hTe⟩ : ∃ z, z = v.heap.size := ⟨_, rfl⟩
              rw [← hTe] at hT nOT nET ⊢
              have zT : T < u.heap.size := by omega
              have yT : wA.heap.size ≤ T := by omega
              clear hu b eu fu hTe
              refine hK.out _ _ ?_ (fun hHeld => ?_)
              · exact ⟨p0, p1⟩
              clear hK K
              try simp only [List.getElem_toArray, List.getElem_cons_succ, List.getElem_cons_zero, Act.put, List.setIfInBounds_toArray, List.set_cons_zero, List.set_cons_succ]
              rw [← unhide hGo]
              exact goTo (N_2_5_6_7 X g5 c5 E T u hbw p0 p1 hO zO yO hE zE yE hT zT yT nOE nOT nET) (by kernel_rfl) (by kernel_rfl) (by rw [unhide ha0]; kernel_rfl)
            · go_simp
              obtain ⟨u, hu⟩ : ∃ z, z = v.alloc (.cells #[.int .i64 0, .slice none 0 0] 25) := ⟨_, rfl⟩
              have b : Below v.heap.size v u := by rw [hu]; exact (Below.refl _ _).alloc (Nat.le_refl _) _
              have eu : v.heap.size < u.heap.size := by rw [hu]; simp
              have fu : wA.heap.size ≤ v.heap.size := (unhide hbw).size
              have hO := hide (World.ownsRow.kept (w' := u) (unhide hO) (grown_below b) (by simp [Value.ownBlock]))
              have zO : g5 < u.heap.size := Nat.lt_of_lt_of_le zO b.size
              have hE := hide ((unhide hE).later b)
              have zE : E < u.heap.size := Nat.lt_of_lt_of_le zE b.size
              have hbw := hide ((unhide hbw).trans (b.mono (unhide hbw).size))
              have p0 := cell_later b p0
              have p1 := cell_later b p1
              have hD0 : u.cell? ⟨v.heap.size, 0, none⟩ = some (.int .i64 0) := by rw [hu]; simp [go_sem]
              have hD1 : u.cell? ⟨v.heap.size, 1, none⟩ = some (.slice none 0 0) := by rw [hu]; simp [go_sem]
              have hDf0 : u.frozen? ⟨v.heap.size, 0, none⟩ = false := by rw [hu]; simp [go_sem]
              have hDf1 : u.frozen? ⟨v.heap.size, 1, none⟩ = false := by rw [hu]; simp [go_sem]
              have nOD : g5 ≠ v.heap.size := by omega
              have nED : E ≠ v.heap.size := by omega
              rw [← hu]
              obtain ⟨D, hDe⟩ : ∃ z, z = v.heap.size := ⟨_, rfl⟩
              rw [← hDe] at hD0 hD1 hDf0 hDf1 nOD nED ⊢
              have zD : D < u.heap.size := by omega
              have yD : wA.heap.size ≤ D := by omega
              clear hu b eu fu hDe
              refine hK.out _ _ ?_ (fun hHeld => ?_)
              · exact ⟨p0, p1⟩
              clear hK K
              try simp only [List.getElem_toArray, List.getElem_cons_succ, List.getElem_cons_zero, Act.put, List.setIfInBounds_toArray, List.set_cons_zero, List.set_cons_succ]
              rw [← unhide hGo]
              exact goTo (N_2_5_6_10 X g5 c5 E D u hbw p0 p1 hO zO yO hE zE yE hD0 hD1 hDf0 hDf1 zD yD nOE nOD nED) (by kernel_rfl) (by kernel_rfl) (by rw [unhide ha0]; kernel_rfl)
          have N_2_5_10 : ∀ (X g5 c5 D : Nat) (v : World) (hbw : Hid (Below wA.heap.size wA v)) (p0 : v.cell? ⟨w1.heap.size, 0, none⟩ = some (.int .i64 (m : Int))) (p1 : v.cell? ⟨w1.heap.size, 1, none⟩ = some (.slice a Lc.length cp)) (hO : Hid (v.ownsRow wA.heap.size 30 1 (.slice (some ⟨g5, 0, none⟩) Lc.length c5) Lc.length (scells Lc))) (zO : g5 < v.heap.size) (yO : wA.heap.size ≤ g5) (hD0 : v.cell? ⟨D, 0, none⟩ = some (.int .i64 0)) (hD1 : v.cell? ⟨D, 1, none⟩ = some (.slice none 0 0)) (hDf0 : v.frozen? ⟨D, 0, none⟩ = false) (hDf1 : v.frozen? ⟨D, 1, none⟩ = false) (zD : D < v.heap.size) (yD : wA.heap.size ≤ D) (nOD : g5 ≠ D), Go 5 #[true, true, true, true, true, true, false, false, false, false, true, false] (((a0.put (some 69) (.slice (some ⟨X, 0, none⟩) 0 0)).put (some 72) (.slice (some ⟨g5, 0, none⟩) Lc.length c5)).put (some 6) (.pointer (some ⟨D, 0, none⟩))) v := by
            intro X g5 c5 D v hbw p0 p1 hO zO yO hD0 hD1 hDf0 hDf1 zD yD nOD
            rw [unhide hGo, unhide ha0]
            try simp only [List.getElem_toArray, List.getElem_cons_succ, List.getElem_cons_zero, Act.put, List.setIfInBounds_toArray, List.set_cons_zero, List.set_cons_succ]
            have hHeld : v.cell? ⟨w1.heap.size, 0, none⟩ = some (.int .i64 (m : Int)) ∧ v.cell? ⟨w1.heap.size, 1, none⟩ = some (.slice a Lc.length cp) := ⟨p0, p1⟩
            refine wpAnyH_ready (rs := [6]) (by kernel_rfl) (by simp) ?_
            refine AllReadyH.cons rfl (fun K hK => ?_) AllReadyH.nil
            go_simp
            obtain ⟨u, hu⟩ : ∃ z, z = v.alloc (.cells #[.int .i64 1, .int .i64 (-1)] 3) := ⟨_, rfl⟩
            have b : Below v.heap.size v u := by rw [hu]; exact (Below.refl _ _).alloc (Nat.le_refl _) _
            have eu : v.heap.size < u.heap.size := by rw [hu]; simp
            have fu : wA.heap.size ≤ v.heap.size := (unhide hbw).size
            have hO := hide (World.ownsRow.kept (w' := u) (unhide hO) (grown_below b) (by simp [Value.ownBlock]))
            have zO : g5 < u.heap.size := Nat.lt_of_lt_of_le zO b.size
            have hD0 := cell_later b hD0
            have hD1 := cell_later b hD1
            have hDf0 := (b.frozen (p := ⟨D, 0, none⟩) zD).trans hDf0
            have hDf1 := (b.frozen (p := ⟨D, 1, none⟩) zD).trans hDf1
            have zD : D < u.heap.size := Nat.lt_of_lt_of_le zD b.size
            have hbw := hide ((unhide hbw).trans (b.mono (unhide hbw).size))
            have p0 := cell_later b p0
            have p1 := cell_later b p1
            have hE : Hid (Clz.Ok (⟨v.heap.size, 2, [1, -1]⟩ : Clz) u 0) := by show Clz.Ok _ _ _; rw [hu]; exact clz_lit v 0 #[.int .i64 1, .int .i64 (-1)] [1, -1] rfl (by omega) (by simp) (unhide hLit)
            have nOE : g5 ≠ v.heap.size := by omega
            have nED : v.heap.size ≠ D := by omega
            rw [← hu]
            obtain ⟨E, hEe⟩ : ∃ z, z = v.heap.size := ⟨_, rfl⟩
            rw [← hEe] at hE nOE nED ⊢
            have zE : E < u.heap.size := by omega
            have yE : wA.heap.size ≤ E := by omega
            clear hu b eu fu hEe
            refine hK.out _ _ ?_ (fun hHeld => ?_)
            · exact ⟨p0, p1⟩
            clear hK K
            try simp only [List.getElem_toArray, List.getElem_cons_succ, List.getElem_cons_zero, Act.put, List.setIfInBounds_toArray, List.set_cons_zero, List.set_cons_succ]
            rw [← unhide hGo]
            exact goTo (N_2_5_6_10 X g5 c5 E D u hbw p0 p1 hO zO yO hE zE yE hD0 hD1 hDf0 hDf1 zD yD nOE nOD nED) (by kernel_rfl) (by kernel_rfl) (by rw [unhide ha0]; kernel_rfl)
          have N_2_6_7 : ∀ (X E T : Nat) (v : World) (hbw : Hid (Below wA.heap.size wA v)) (p0 : v.cell? ⟨w1.heap.size, 0, none⟩ = some (.int .i64 (m : Int))) (p1 : v.cell? ⟨w1.heap.size, 1, none⟩ = some (.slice a Lc.length cp)) (hX : Hid (v.heap[X]? = some (.cells #[] 30 (0, 0)))) (zX : X < v.heap.size) (yX : wA.heap.size ≤ X) (hE : Hid (Clz.Ok (⟨E, 2, [1, -1]⟩ : Clz) v 0)) (zE : E < v.heap.size) (yE : wA.heap.size ≤ E) (hT : v.cell? ⟨T, 0, none⟩ = some (.slice (some ⟨E, 0, none⟩) 2 2)) (zT : T < v.heap.size) (yT : wA.heap.size ≤ T) (nXE : X ≠ E) (nXT : X ≠ T) (nET : E ≠ T), Go 5 #[true, true, true, true, true, false, true, true, false, false, false, false] (((a0.put (some 69) (.slice (some ⟨X, 0, none⟩) 0 0)).put (some 73) (.slice (some ⟨E, 0, none⟩) 2 2)).put (some 74) (.slice (some ⟨T, 0, none⟩) 1 1)) v := by
            intro X E T v hbw p0 p1 hX zX yX hE zE yE hT zT yT nXE nXT nET
            rw [unhide hGo, unhide ha0]
            try simp only [List.getElem_toArray, List.getElem_cons_succ, List.getElem_cons_zero, Act.put, List.setIfInBounds_toArray, List.set_cons_zero, List.set_cons_succ]
            have hHeld : v.cell? ⟨w1.heap.size, 0, none⟩ = some (.int .i64 (m : Int)) ∧ v.cell? ⟨w1.heap.size, 1, none⟩ = some (.slice a Lc.length cp) := ⟨p0, p1⟩
            refine wpAnyH_ready (rs := [5, 10]) (by kernel_rfl) (by simp) ?_
            refine AllReadyH.cons rfl (fun K hK => ?_) (AllReadyH.cons rfl (fun K hK => ?_) AllReadyH.nil)
            · apply step_clz_copy (R := 0) (Ls := Lc) (base := wA.heap.size)
              case hgd => rfl
              case ho => rfl
              case hty => rfl
              case hs => rfl
              case hX => exact unhide hX
              case hbX => exact yX
              case hbase => exact (unhide hbw).size
              case hx => rfl
              case hc => exact (unhide HC0).later (unhide hbw)
              case hl => omega
              case' h => intro g5 c5 u o5 gr5 at5 lt5
              have mv5 : Mov X _ u := mov_of_grown gr5
              have hE := hide ((unhide hE).grown (grown_mov mv5) (by simp only [ne_eq, Option.some.injEq]; omega))
              have zE : E < u.heap.size := Nat.lt_of_lt_of_le zE mv5.size
              have hT := mv5.cell hT (by simp only; omega)
              have zT : T < u.heap.size := Nat.lt_of_lt_of_le zT mv5.size
              have p0 := mv5.cell p0 (by simp only; omega)
              have p1 := mv5.cell p1 (by simp only; omega)
              have hbw := hide ((unhide hbw).trans (mv5.below yX (unhide hbw).size))
              have hO := hide o5
              have zO := lt5
              have yO : wA.heap.size ≤ g5 := own_base o5
              have nOE : g5 ≠ E := by rcases at5 with e | e <;> omega
              have nOT : g5 ≠ T := by rcases at5 with e | e <;> omega
              clear o5 gr5 at5 lt5 mv5
              refine hK.out _ _ ?_ (fun hHeld => ?_)
              · exact ⟨p0, p1⟩
              clear hK K
              try simp only [List.getElem_toArray, List.getElem_cons_succ, List.getElem_cons_zero, Act.put, List.setIfInBounds_toArray, List.set_cons_zero, List.set_cons_succ]
              rw [← unhide hGo]
              exact goTo (N_2_5_6_7 X g5 c5 E T u hbw p0 p1 hO zO yO hE zE yE hT zT yT nOE nOT nET) (by kernel_rfl) (by kernel_rfl) (by rw [unhide ha0]; kernel_rfl)
            · go_simp
              obtain ⟨u, hu⟩ : ∃ z, z = v.alloc (.cells #[.int .i64 0, .slice none 0 0] 25) := ⟨_, rfl⟩
              have b : Below v.heap.size v u := by rw [hu]; exact (Below.refl _ _).alloc (Nat.le_refl _) _
              have eu : v.heap.size < u.heap.size := by rw [hu]; simp
              have fu : wA.heap.size ≤ v.heap.size := (unhide hbw).size
              have hX : Hid (u.heap[X]? = some (.cells #[] 30 (0, 0))) := (b.block _ (by omega)).trans (unhide hX)
              have zX : X < u.heap.size := Nat.lt_of_lt_of_le zX b.size
              have hE := hide ((unhide hE).later b)
              have zE : E < u.heap.size := Nat.lt_of_lt_of_le zE b.size
              have hT := cell_later b hT
              have zT : T < u.heap.size := Nat.lt_of_lt_of_le zT b.size
              have hbw := hide ((unhide hbw).trans (b.mono (unhide hbw).size))
              have p0 := cell_later b p0
              have p1 := cell_later b p1
              have hD0 : u.cell? ⟨v.heap.size, 0, none⟩ = some (.int .i64 0) := by rw [hu]; simp [go_sem]
              have hD1 : u.cell? ⟨v.heap.size, 1, none⟩ = some (.slice none 0 0) := by rw [hu]; simp [go_sem]
              have hDf0 : u.frozen? ⟨v.heap.size, 0, none⟩ = false := by rw [hu]; simp [go_sem]
              have hDf1 : u.frozen? ⟨v.heap.size, 1, none⟩ = false := by rw [hu]; simp [go_sem]
              have nXD : X ≠ v.heap.size := by omega
              have nED : E ≠ v.heap.size := by omega
              have nTD : T ≠ v.heap.size := by omega
              rw [← hu]
              obtain ⟨D, hDe⟩ : ∃ z, z = v.heap.size := ⟨_, rfl⟩
              rw [← hDe] at hD0 hD1 hDf0 hDf1 nXD nED nTD ⊢
              have zD : D < u.heap.size := by omega
              have yD : wA.heap.size ≤ D := by omega
              clear hu b eu fu hDe
              refine hK.out _ _ ?_ (fun hHeld => ?_)
              · exact ⟨p0, p1⟩
              clear hK K
              try simp only [List.getElem_toArray, List.getElem_cons_succ, List.getElem_cons_zero, Act.put, List.setIfInBounds_toArray, List.set_cons_zero, List.set_cons_succ]
              rw [← unhide hGo]
              exact goTo (N_2_6_7_10 X E T D u hbw p0 p1 hX zX yX hE zE yE hT zT yT hD0 hD1 hDf0 hDf1 zD yD nXE nXT nXD nET nED nTD) (by kernel_rfl) (by kernel_rfl) (by rw [unhide ha0]; kernel_rfl)
          have N_2_6_10 : ∀ (X E D : Nat) (v : World) (hbw : Hid (Below wA.heap.size wA v)) (p0 : v.cell? ⟨w1.heap.size, 0, none⟩ = some (.int .i64 (m : Int))) (p1 : v.cell? ⟨w1.heap.size, 1, none⟩ = some (.slice a Lc.length cp)) (hX : Hid (v.heap[X]? = some (.cells #[] 30 (0, 0)))) (zX : X < v.heap.size) (yX : wA.heap.size ≤ X) (hE : Hid (Clz.Ok (⟨E, 2, [1, -1]⟩ : Clz) v 0)) (zE : E < v.heap.size) (yE : wA.heap.size ≤ E) (hD0 : v.cell? ⟨D, 0, none⟩ = some (.int .i64 0)) (hD1 : v.cell? ⟨D, 1, none⟩ = some (.slice none 0 0)) (hDf0 : v.frozen? ⟨D, 0, none⟩ = false) (hDf1 : v.frozen? ⟨D, 1, none⟩ = false) (zD : D < v.heap.size) (yD : wA.heap.size ≤ D) (nXE : X ≠ E) (nXD : X ≠ D) (nED : E ≠ D), Go 5 #[true, true, true, true, true, false, true, false, false, false, true, false] (((a0.put (some 69) (.slice (some ⟨X, 0, none⟩) 0 0)).put (some 73) (.slice (some ⟨E, 0, none⟩) 2 2)).put (some 6) (.pointer (some ⟨D, 0, none⟩))) v := by
            intro X E D v hbw p0 p1 hX zX yX hE zE yE hD0 hD1 hDf0 hDf1 zD yD nXE nXD nED
            rw [unhide hGo, unhide ha0]
            try simp only [List.getElem_toArray, List.getElem_cons_succ, List.getElem_cons_zero, Act.put, List.setIfInBounds_toArray, List.set_cons_zero, List.set_cons_succ]
            have hHeld : v.cell? ⟨w1.heap.size, 0, none⟩ = some (.int .i64 (m : Int)) ∧ v.cell? ⟨w1.heap.size, 1, none⟩ = some (.slice a Lc.length cp) := ⟨p0, p1⟩
            refine wpAnyH_ready (rs := [5, 7]) (by kernel_rfl) (by simp) ?_
            refine AllReadyH.cons rfl (fun K hK => ?_) (AllReadyH.cons rfl (fun K hK => ?_) AllReadyH.nil)
            · apply step_clz_copy (R := 0) (Ls := Lc) (base := wA.heap.size)
              case hgd => rfl
              case ho => rfl
              case hty => rfl
              case hs => rfl
              case hX => exact unhide hX
              case hbX => exact yX
              case hbase => exact (unhide hbw).size
              case hx => rfl
              case hc => exact (unhide HC0).later (unhide hbw)
              case hl => omega
              case' h => intro g5 c5 u o5 gr5 at5 lt5
              have mv5 : Mov X _ u := mov_of_grown gr5
              have hE := hide ((unhide hE).grown (grown_mov mv5) (by simp only [ne_eq, Option.some.injEq]; omega))
              have zE : E < u.heap.size := Nat.lt_of_lt_of_le zE mv5.size
              have hD0 := mv5.cell hD0 (by simp only; omega)
              have hD1 := mv5.cell hD1 (by simp only; omega)
              have hDf0 := (World.frozen?_of_block (w := v) (a := ⟨D, 0, none⟩) (mv5.2.2.2.2 D zD (by omega))).trans hDf0
              have hDf1 := (World.frozen?_of_block (w := v) (a := ⟨D, 1, none⟩) (mv5.2.2.2.2 D zD (by omega))).trans hDf1
              have zD : D < u.heap.size := Nat.lt_of_lt_of_le zD mv5.size
              have p0 := mv5.cell p0 (by simp only; omega)
              have p1 := mv5.cell p1 (by simp only; omega)
              have hbw := hide ((unhide hbw).trans (mv5.below yX (unhide hbw).size))
              have hO := hide o5
              have zO := lt5
              have yO : wA.heap.size ≤ g5 := own_base o5
              have nOE : g5 ≠ E := by rcases at5 with e | e <;> omega
              have nOD : g5 ≠ D := by rcases at5 with e | e <;> omega
              clear o5 gr5 at5 lt5 mv5
              refine hK.out _ _ ?_ (fun hHeld => ?_)
              · exact ⟨p0, p1⟩
              clear hK K
              try simp only [List.getElem_toArray, List.getElem_cons_succ, List.getElem_cons_zero, Act.put, List.setIfInBounds_toArray, List.set_cons_zero, List.set_cons_succ]
              rw [← unhide hGo]
              exact goTo (N_2_5_6_10 X g5 c5 E D u hbw p0 p1 hO zO yO hE zE yE hD0 hD1 hDf0 hDf1 zD yD nOE nOD nED) (by kernel_rfl) (by kernel_rfl) (by rw [unhide ha0]; kernel_rfl)
            · go_simp
              obtain ⟨u, hu⟩ : ∃ z, z = v.alloc (.cells #[.slice (some ⟨E, 0, none⟩) 2 2] 30) := ⟨_, rfl⟩
              have b : Below v.heap.size v u := by rw [hu]; exact (Below.refl _ _).alloc (Nat.le_refl _) _
              have eu : v.heap.size < u.heap.size := by rw [hu]; simp
              have fu : wA.heap.size ≤ v.heap.size := (unhide hbw).size
              have hX : Hid (u.heap[X]? = some (.cells #[] 30 (0, 0))) := (b.block _ (by omega)).trans (unhide hX)
              have zX : X < u.heap.size := Nat.lt_of_lt_of_le zX b.size
              have hE := hide ((unhide hE).later b)
              have zE : E < u.heap.size := Nat.lt_of_lt_of_le zE b.size
              have hD0 := cell_later b hD0
              have hD1 := cell_later b hD1
              have hDf0 := (b.frozen (p := ⟨D, 0, none⟩) zD).trans hDf0
              have hDf1 := (b.frozen (p := ⟨D, 1, none⟩) zD).trans hDf1
              have zD : D < u.heap.size := Nat.lt_of_lt_of_le zD b.size
              have hbw := hide ((unhide hbw).trans (b.mono (unhide hbw).size))
              have p0 := cell_later b p0
              have p1 := cell_later b p1
              have hT : u.cell? ⟨v.heap.size, 0, none⟩ = some (.slice (some ⟨E, 0, none⟩) 2 2) := by rw [hu]; simp [go_sem]
              have nXT : X ≠ v.heap.size := by omega
              have nET : E ≠ v.heap.size := by omega
              have nTD : v.heap.size ≠ D := by omega
              rw [← hu]
              obtain ⟨T, hTe⟩ : ∃ z, z = v.heap.size := ⟨_, rfl⟩
              rw [← hTe] at hT nXT nET nTD ⊢
              have zT : T < u.heap.size := by omega
              have yT : wA.heap.size ≤ T := by omega
              clear hu b eu fu hTe
              refine hK.out _ _ ?_ (fun hHeld => ?_)
              · exact ⟨p0, p1⟩
              clear hK K
              try simp only [List.getElem_toArray, List.getElem_cons_succ, List.getElem_cons_zero, Act.put, List.setIfInBounds_toArray, List.set_cons_zero, List.set_cons_succ]
              rw [← unhide hGo]
              exact goTo (N_2_6_7_10 X E T D u hbw p0 p1 hX zX yX hE zE yE hT zT yT hD0 hD1 hDf0 hDf1 zD yD nXE nXT nXD nET nED nTD) (by kernel_rfl) (by kernel_rfl) (by rw [unhide ha0]; kernel_rfl)
          have N_6_7_10 : ∀ (E T D : Nat) (v : World) (hbw : Hid (Below wA.heap.size wA v)) (p0 : v.cell? ⟨w1.heap.size, 0, none⟩ = some (.int .i64 (m : Int))) (p1 : v.cell? ⟨w1.heap.size, 1, none⟩ = some (.slice a Lc.length cp)) (hE : Hid (Clz.Ok (⟨E, 2, [1, -1]⟩ : Clz) v 0)) (zE : E < v.heap.size) (yE : wA.heap.size ≤ E) (hT : v.cell? ⟨T, 0, none⟩ = some (.slice (some ⟨E, 0, none⟩) 2 2)) (zT : T < v.heap.size) (yT : wA.heap.size ≤ T) (hD0 : v.cell? ⟨D, 0, none⟩ = some (.int .i64 0)) (hD1 : v.cell? ⟨D, 1, none⟩ = some (.slice none 0 0)) (hDf0 : v.frozen? ⟨D, 0, none⟩ = false) (hDf1 : v.frozen? ⟨D, 1, none⟩ = false) (zD : D < v.heap.size) (yD : wA.heap.size ≤ D) (nET : E ≠ T) (nED : E ≠ D) (nTD : T ≠ D), Go 5 #[true, true, false, true, true, false, true, true, false, false, true, false] (((a0.put (some 73) (.slice (some ⟨E, 0, none⟩) 2 2)).put (some 74) (.slice (some ⟨T, 0, none⟩) 1 1)).put (some 6) (.pointer (some ⟨D, 0, none⟩))) v := by
            intro E T D v hbw p0 p1 hE zE yE hT zT yT hD0 hD1 hDf0 hDf1 zD yD nET nED nTD
            rw [unhide hGo, unhide ha0]
            try simp only [List.getElem_toArray, List.getElem_cons_succ, List.getElem_cons_zero, Act.put, List.setIfInBounds_toArray, List.set_cons_zero, List.set_cons_succ]
            have hHeld : v.cell? ⟨w1.heap.size, 0, none⟩ = some (.int .i64 (m : Int)) ∧ v.cell? ⟨w1.heap.size, 1, none⟩ = some (.slice a Lc.length cp) := ⟨p0, p1⟩
            refine wpAnyH_ready (rs := [2]) (by kernel_rfl) (by simp) ?_
            refine AllReadyH.cons rfl (fun K hK => ?_) AllReadyH.nil
            go_simp
            obtain ⟨u, hu⟩ : ∃ z, z = v.alloc (.cells #[] 30) := ⟨_, rfl⟩
            have b : Below v.heap.size v u := by rw [hu]; exact (Below.refl _ _).alloc (Nat.le_refl _) _
            have eu : v.heap.size < u.heap.size := by rw [hu]; simp
            have fu : wA.heap.size ≤ v.heap.size := (unhide hbw).size
            have hE := hide ((unhide hE).later b)
            have zE : E < u.heap.size := Nat.lt_of_lt_of_le zE b.size
            have hT := cell_later b hT
            have zT : T < u.heap.size := Nat.lt_of_lt_of_le zT b.size
            have hD0 := cell_later b hD0
            have hD1 := cell_later b hD1
            have hDf0 := (b.frozen (p := ⟨D, 0, none⟩) zD).trans hDf0
            have hDf1 := (b.frozen (p := ⟨D, 1, none⟩) zD).trans hDf1
            have zD : D < u.heap.size := Nat.lt_of_lt_of_le zD b.size
            have hbw := hide ((unhide hbw).trans (b.mono (unhide hbw).size))
            have p0 := cell_later b p0
            have p1 := cell_later b p1
            have hX : Hid (u.heap[v.heap.size]? = some (.cells #[] 30 (0, 0))) := by show _ = _; rw [hu]; exact alloc_at rfl
            have nXE : v.heap.size ≠ E := by omega
            have nXT : v.heap.size ≠ T := by omega
            have nXD : v.heap.size ≠ D := by omega
            rw [← hu]
            obtain ⟨X, hXe⟩ : ∃ z, z = v.heap.size := ⟨_, rfl⟩
            rw [← hXe] at hX nXE nXT nXD ⊢
            have zX : X < u.heap.size := by omega
            have yX : wA.heap.size ≤ X := by omega
            clear hu b eu fu hXe
            refine hK.out _ _ ?_ (fun hHeld => ?_)
            · exact ⟨p0, p1⟩
            clear hK K
            try simp only [List.getElem_toArray, List.getElem_cons_succ, List.getElem_cons_zero, Act.put, List.setIfInBounds_toArray, List.set_cons_zero, List.set_cons_succ]
            rw [← unhide hGo]
            exact goTo (N_2_6_7_10 X E T D u hbw p0 p1 hX zX yX hE zE yE hT zT yT hD0 hD1 hDf0 hDf1 zD yD nXE nXT nXD nET nED nTD) (by kernel_rfl) (by kernel_rfl) (by rw [unhide ha0]; kernel_rfl)
          have N_2_5 : ∀ (X g5 c5 : Nat) (v : World) (hbw : Hid (Below wA.heap.size wA v)) (p0 : v.cell? ⟨w1.heap.size, 0, none⟩ = some (.int .i64 (m : Int))) (p1 : v.cell? ⟨w1.heap.size, 1, none⟩ = some (.slice a Lc.length cp)) (hO : Hid (v.ownsRow wA.heap.size 30 1 (.slice (some ⟨g5, 0, none⟩) Lc.length c5) Lc.length (scells Lc))) (zO : g5 < v.heap.size) (yO : wA.heap.size ≤ g5), Go 6 #[true, true, true, true, true, true, false, false, false, false, false, false] ((a0.put (some 69) (.slice (some ⟨X, 0, none⟩) 0 0)).put (some 72) (.slice (some ⟨g5, 0, none⟩) Lc.length c5)) v := by
            intro X g5 c5 v hbw p0 p1 hO zO yO
            rw [unhide hGo, unhide ha0]
            try simp only [List.getElem_toArray, List.getElem_cons_succ, List.getElem_cons_zero, Act.put, List.setIfInBounds_toArray, List.set_cons_zero, List.set_cons_succ]
            have hHeld : v.cell? ⟨w1.heap.size, 0, none⟩ = some (.int .i64 (m : Int)) ∧ v.cell? ⟨w1.heap.size, 1, none⟩ = some (.slice a Lc.length cp) := ⟨p0, p1⟩
            refine wpAnyH_ready (rs := [6, 10]) (by kernel_rfl) (by simp) ?_
            refine AllReadyH.cons rfl (fun K hK => ?_) (AllReadyH.cons rfl (fun K hK => ?_) AllReadyH.nil)
            · go_simp
              obtain ⟨u, hu⟩ : ∃ z, z = v.alloc (.cells #[.int .i64 1, .int .i64 (-1)] 3) := ⟨_, rfl⟩
              have b : Below v.heap.size v u := by rw [hu]; exact (Below.refl _ _).alloc (Nat.le_refl _) _
              have eu : v.heap.size < u.heap.size := by rw [hu]; simp
              have fu : wA.heap.size ≤ v.heap.size := (unhide hbw).size
              have hO := hide (World.ownsRow.kept (w' := u) (unhide hO) (grown_below b) (by simp [Value.ownBlock]))
              have zO : g5 < u.heap.size := Nat.lt_of_lt_of_le zO b.size
              have hbw := hide ((unhide hbw).trans (b.mono (unhide hbw).size))
              have p0 := cell_later b p0
              have p1 := cell_later b p1
              have hE : Hid (Clz.Ok (⟨v.heap.size, 2, [1, -1]⟩ : Clz) u 0) := by show Clz.Ok _ _ _; rw [hu]; exact clz_lit v 0 #[.int .i64 1, .int .i64 (-1)] [1, -1] rfl (by omega) (by simp) (unhide hLit)
              have nOE : g5 ≠ v.heap.size := by omega
              rw [← hu]
              obtain ⟨E, hEe⟩ : ∃ z, z = v.heap.size := ⟨_, rfl⟩
              rw [← hEe] at hE nOE ⊢
              have zE : E < u.heap.size := by omega
              have yE : wA.heap.size ≤ E := by omega
              clear hu b eu fu hEe
              refine hK.out _ _ ?_ (fun hHeld => ?_)
              · exact ⟨p0, p1⟩
              clear hK K
              try simp only [List.getElem_toArray, List.getElem_cons_succ, List.getElem_cons_zero, Act.put, List.setIfInBounds_toArray, List.set_cons_zero, List.set_cons_succ]
              rw [← unhide hGo]
              exact goTo (N_2_5_6 X g5 c5 E u hbw p0 p1 hO zO yO hE zE yE nOE) (by kernel_rfl) (by kernel_rfl) (by rw [unhide ha0]; kernel_rfl)
            · go_simp
              obtain ⟨u, hu⟩ : ∃ z, z = v.alloc (.cells #[.int .i64 0, .slice none 0 0] 25) := ⟨_, rfl⟩
              have b : Below v.heap.size v u := by rw [hu]; exact (Below.refl _ _).alloc (Nat.le_refl _) _
              have eu : v.heap.size < u.heap.size := by rw [hu]; simp
              have fu : wA.heap.size ≤ v.heap.size := (unhide hbw).size
              have hO := hide (World.ownsRow.kept (w' := u) (unhide hO) (grown_below b) (by simp [Value.ownBlock]))
              have zO : g5 < u.heap.size := Nat.lt_of_lt_of_le zO b.size
              have hbw := hide ((unhide hbw).trans (b.mono (unhide hbw).size))
              have p0 := cell_later b p0
              have p1 := cell_later b p1
              have hD0 : u.cell? ⟨v.heap.size, 0, none⟩ = some (.int .i64 0) := by rw [hu]; simp [go_sem]
              have hD1 : u.cell? ⟨v.heap.size, 1, none⟩ = some (.slice none 0 0) := by rw [hu]; simp [go_sem]
              have hDf0 : u.frozen? ⟨v.heap.size, 0, none⟩ = false := by rw [hu]; simp [go_sem]
              have hDf1 : u.frozen? ⟨v.heap.size, 1, none⟩ = false := by rw [hu]; simp [go_sem]
              have nOD : g5 ≠ v.heap.size := by omega
              rw [← hu]
              obtain ⟨D, hDe⟩ : ∃ z, z = v.heap.size := ⟨_, rfl⟩
              rw [← hDe] at hD0 hD1 hDf0 hDf1 nOD ⊢
              have zD : D < u.heap.size := by omega
              have yD : wA.heap.size ≤ D := by omega
              clear hu b eu fu hDe
              refine hK.out _ _ ?_ (fun hHeld => ?_)
              · exact ⟨p0, p1⟩
              clear hK K
              try simp only [List.getElem_toArray, List.getElem_cons_succ, List.getElem_cons_zero, Act.put, List.setIfInBounds_toArray, List.set_cons_zero, List.set_cons_succ]
              rw [← unhide hGo]
              exact goTo (N_2_5_10 X g5 c5 D u hbw p0 p1 hO zO yO hD0 hD1 hDf0 hDf1 zD yD nOD) (by kernel_rfl) (by kernel_rfl) (by rw [unhide ha0]; kernel_rfl)
          have N_2_6 : ∀ (X E : Nat) (v : World) (hbw : Hid (Below wA.heap.size wA v)) (p0 : v.cell? ⟨w1.heap.size, 0, none⟩ = some (.int .i64 (m : Int))) (p1 : v.cell? ⟨w1.heap.size, 1, none⟩ = some (.slice a Lc.length cp)) (hX : Hid (v.heap[X]? = some (.cells #[] 30 (0, 0)))) (zX : X < v.heap.size) (yX : wA.heap.size ≤ X) (hE : Hid (Clz.Ok (⟨E, 2, [1, -1]⟩ : Clz) v 0)) (zE : E < v.heap.size) (yE : wA.heap.size ≤ E) (nXE : X ≠ E), Go 6 #[true, true, true, true, true, false, true, false, false, false, false, false] ((a0.put (some 69) (.slice (some ⟨X, 0, none⟩) 0 0)).put (some 73) (.slice (some ⟨E, 0, none⟩) 2 2)) v := by
            intro X E v hbw p0 p1 hX zX yX hE zE yE nXE
            rw [unhide hGo, unhide ha0]
            try simp only [List.getElem_toArray, List.getElem_cons_succ, List.getElem_cons_zero, Act.put, List.setIfInBounds_toArray, List.set_cons_zero, List.set_cons_succ]
            have hHeld : v.cell? ⟨w1.heap.size, 0, none⟩ = some (.int .i64 (m : Int)) ∧ v.cell? ⟨w1.heap.size, 1, none⟩ = some (.slice a Lc.length cp) := ⟨p0, p1⟩
            refine wpAnyH_ready (rs := [5, 7, 10]) (by kernel_rfl) (by simp) ?_
            refine AllReadyH.cons rfl (fun K hK => ?_) (AllReadyH.cons rfl (fun K hK => ?_) (AllReadyH.cons rfl (fun K hK => ?_) AllReadyH.nil))
            · apply step_clz_copy (R := 0) (Ls := Lc) (base := wA.heap.size)
              case hgd => rfl
              case ho => rfl
              case hty => rfl
              case hs => rfl
              case hX => exact unhide hX
              case hbX => exact yX
              case hbase => exact (unhide hbw).size
              case hx => rfl
              case hc => exact (unhide HC0).later (unhide hbw)
              case hl => omega
              case' h => intro g5 c5 u o5 gr5 at5 lt5
              have mv5 : Mov X _ u := mov_of_grown gr5
              have hE := hide ((unhide hE).grown (grown_mov mv5) (by simp only [ne_eq, Option.some.injEq]; omega))
              have zE : E < u.heap.size := Nat.lt_of_lt_of_le zE mv5.size
              have p0 := mv5.cell p0 (by simp only; omega)
              have p1 := mv5.cell p1 (by simp only; omega)
              have hbw := hide ((unhide hbw).trans (mv5.below yX (unhide hbw).size))
              have hO := hide o5
              have zO := lt5
              have yO : wA.heap.size ≤ g5 := own_base o5
              have nOE : g5 ≠ E := by rcases at5 with e | e <;> omega
              clear o5 gr5 at5 lt5 mv5
              refine hK.out _ _ ?_ (fun hHeld => ?_)
              · exact ⟨p0, p1⟩
              clear hK K
              try simp only [List.getElem_toArray, List.getElem_cons_succ, List.getElem_cons_zero, Act.put, List.setIfInBounds_toArray, List.set_cons_zero, List.set_cons_succ]
              rw [← unhide hGo]
              exact goTo (N_2_5_6 X g5 c5 E u hbw p0 p1 hO zO yO hE zE yE nOE) (by kernel_rfl) (by kernel_rfl) (by rw [unhide ha0]; kernel_rfl)
            · go_simp
              obtain ⟨u, hu⟩ : ∃ z, z = v.alloc (.cells #[.slice (some ⟨E, 0, none⟩) 2 2] 30) := ⟨_, rfl⟩
              have b : Below v.heap.size v u := by rw [hu]; exact (Below.refl _ _).alloc (Nat.le_refl _) _
              have eu : v.heap.size < u.heap.size := by rw [hu]; simp
              have fu : wA.heap.size ≤ v.heap.size := (unhide hbw).size
              have hX : Hid (u.heap[X]? = some (.cells #[] 30 (0, 0))) := (b.block _ (by omega)).trans (unhide hX)
              have zX : X < u.heap.size := Nat.lt_of_lt_of_le zX b.size
              have hE := hide ((unhide hE).later b)
              have zE : E < u.heap.size := Nat.lt_of_lt_of_le zE b.size
              have hbw := hide ((unhide hbw).trans (b.mono (unhide hbw).size))
              have p0 := cell_later b p0
              have p1 := cell_later b p1
              have hT : u.cell? ⟨v.heap.size, 0, none⟩ = some (.slice (some ⟨E, 0, none⟩) 2 2) := by rw [hu]; simp [go_sem]
              have nXT : X ≠ v.heap.size := by omega
              have nET : E ≠ v.heap.size := by omega
              rw [← hu]
              obtain ⟨T, hTe⟩ : ∃ z, z = v.heap.size := ⟨_, rfl⟩
              rw [← hTe] at hT nXT nET ⊢
              have zT : T < u.heap.size := by omega
              have yT : wA.heap.size ≤ T := by omega
              clear hu b eu fu hTe
              refine hK.out _ _ ?_ (fun hHeld => ?_)
              · exact ⟨p0, p1⟩
              clear hK K
              try simp only [List.getElem_toArray, List.getElem_cons_succ, List.getElem_cons_zero, Act.put, List.setIfInBounds_toArray, List.set_cons_zero, List.set_cons_succ]
              rw [← unhide hGo]
              exact goTo (N_2_6_7 X E T u hbw p0 p1 hX zX yX hE zE yE hT zT yT nXE nXT nET) (by kernel_rfl) (by kernel_rfl) (by rw [unhide ha0]; kernel_rfl)
            · go_simp
              obtain ⟨u, hu⟩ : ∃ z, z = v.alloc (.cells #[.int .i64 0, .slice none 0 0] 25) := ⟨_, rfl⟩
              have b : Below v.heap.size v u := by rw [hu]; exact (Below.refl _ _).alloc (Nat.le_refl _) _
              have eu : v.heap.size < u.heap.size := by rw [hu]; simp
              have fu : wA.heap.size ≤ v.heap.size := (unhide hbw).size
              have hX : Hid (u.heap[X]? = some (.cells #[] 30 (0, 0))) := (b.block _ (by omega)).trans (unhide hX)
              have zX : X < u.heap.size := Nat.lt_of_lt_of_le zX b.size
              have hE := hide ((unhide hE).later b)
              have zE : E < u.heap.size := Nat.lt_of_lt_of_le zE b.size
              have hbw := hide ((unhide hbw).trans (b.mono (unhide hbw).size))
              have p0 := cell_later b p0
              have p1 := cell_later b p1
              have hD0 : u.cell? ⟨v.heap.size, 0, none⟩ = some (.int .i64 0) := by rw [hu]; simp [go_sem]
              have hD1 : u.cell? ⟨v.heap.size, 1, none⟩ = some (.slice none 0 0) := by rw [hu]; simp [go_sem]
              have hDf0 : u.frozen? ⟨v.heap.size, 0, none⟩ = false := by rw [hu]; simp [go_sem]
              have hDf1 : u.frozen? ⟨v.heap.size, 1, none⟩ = false := by rw [hu]; simp [go_sem]
              have nXD : X ≠ v.heap.size := by omega
              have nED : E ≠ v.heap.size := by omega
              rw [← hu]
              obtain ⟨D, hDe⟩ : ∃ z, z = v.heap.size := ⟨_, rfl⟩
              rw [← hDe] at hD0 hD1 hDf0 hDf1 nXD nED ⊢
              have zD : D < u.heap.size := by omega
              have yD : wA.heap.size ≤ D := by omega
              clear hu b eu fu hDe
              refine hK.out _ _ ?_ (fun hHeld => ?_)
              · exact ⟨p0, p1⟩
              clear hK K
              try simp only [List.getElem_toArray, List.getElem_cons_succ, List.getElem_cons_zero, Act.put, List.setIfInBounds_toArray, List.set_cons_zero, List.set_cons_succ]
              rw [← unhide hGo]
              exact goTo (N_2_6_10 X E D u hbw p0 p1 hX zX yX hE zE yE hD0 hD1 hDf0 hDf1 zD yD nXE nXD nED) (by kernel_rfl) (by kernel_rfl) (by rw [unhide ha0]; kernel_rfl)
          have N_2_10 : ∀ (X D : Nat) (v : World) (hbw : Hid (Below wA.heap.size wA v)) (p0 : v.cell? ⟨w1.heap.size, 0, none⟩ = some (.int .i64 (m : Int))) (p1 : v.cell? ⟨w1.heap.size, 1, none⟩ = some (.slice a Lc.length cp)) (hX : Hid (v.heap[X]? = some (.cells #[] 30 (0, 0)))) (zX : X < v.heap.size) (yX : wA.heap.size ≤ X) (hD0 : v.cell? ⟨D, 0, none⟩ = some (.int .i64 0)) (hD1 : v.cell? ⟨D, 1, none⟩ = some (.slice none 0 0)) (hDf0 : v.frozen? ⟨D, 0, none⟩ = false) (hDf1 : v.frozen? ⟨D, 1, none⟩ = false) (zD : D < v.heap.size) (yD : wA.heap.size ≤ D) (nXD : X ≠ D), Go 6 #[true, true, true, true, true, false, false, false, false, false, true, false] ((a0.put (some 69) (.slice (some ⟨X, 0, none⟩) 0 0)).put (some 6) (.pointer (some ⟨D, 0, none⟩))) v := by
            intro X D v hbw p0 p1 hX zX yX hD0 hD1 hDf0 hDf1 zD yD nXD
            rw [unhide hGo, unhide ha0]
            try simp only [List.getElem_toArray, List.getElem_cons_succ, List.getElem_cons_zero, Act.put, List.setIfInBounds_toArray, List.set_cons_zero, List.set_cons_succ]
            have hHeld : v.cell? ⟨w1.heap.size, 0, none⟩ = some (.int .i64 (m : Int)) ∧ v.cell? ⟨w1.heap.size, 1, none⟩ = some (.slice a Lc.length cp) := ⟨p0, p1⟩
            refine wpAnyH_ready (rs := [5, 6]) (by kernel_rfl) (by simp) ?_
            refine AllReadyH.cons rfl (fun K hK => ?_) (AllReadyH.cons rfl (fun K hK => ?_) AllReadyH.nil)
            · apply step_clz_copy (R := 0) (Ls := Lc) (base := wA.heap.size)
              case hgd => rfl
              case ho => rfl
              case hty => rfl
              case hs => rfl
              case hX => exact unhide hX
              case hbX => exact yX
              case hbase => exact (unhide hbw).size
              case hx => rfl
              case hc => exact (unhide HC0).later (unhide hbw)
              case hl => omega
              case' h => intro g5 c5 u o5 gr5 at5 lt5
              have mv5 : Mov X _ u := mov_of_grown gr5
              have hD0 := mv5.cell hD0 (by simp only; omega)
              have hD1 := mv5.cell hD1 (by simp only; omega)
              have hDf0 := (World.frozen?_of_block (w := v) (a := ⟨D, 0, none⟩) (mv5.2.2.2.2 D zD (by omega))).trans hDf0
              have hDf1 := (World.frozen?_of_block (w := v) (a := ⟨D, 1, none⟩) (mv5.2.2.2.2 D zD (by omega))).trans hDf1
              have zD : D < u.heap.size := Nat.lt_of_lt_of_le zD mv5.size
              have p0 := mv5.cell p0 (by simp only; omega)
              have p1 := mv5.cell p1 (by simp only; omega)
              have hbw := hide ((unhide hbw).trans (mv5.below yX (unhide hbw).size))
              have hO := hide o5
              have zO := lt5
              have yO : wA.heap.size ≤ g5 := own_base o5
              have nOD : g5 ≠ D := by rcases at5 with e | e <;> omega
              clear o5 gr5 at5 lt5 mv5
              refine hK.out _ _ ?_ (fun hHeld => ?_)
              · exact ⟨p0, p1⟩
              clear hK K
              try simp only [List.getElem_toArray, List.getElem_cons_succ, List.getElem_cons_zero, Act.put, List.setIfInBounds_toArray, List.set_cons_zero, List.set_cons_succ]
              rw [← unhide hGo]
              exact goTo (N_2_5_10 X g5 c5 D u hbw p0 p1 hO zO yO hD0 hD1 hDf0 hDf1 zD yD nOD) (by kernel_rfl) (by kernel_rfl) (by rw [unhide ha0]; kernel_rfl)
            · go_simp
              obtain ⟨u, hu⟩ : ∃ z, z = v.alloc (.cells #[.int .i64 1, .int .i64 (-1)] 3) := ⟨_, rfl⟩
              have b : Below v.heap.size v u := by rw [hu]; exact (Below.refl _ _).alloc (Nat.le_refl _) _
              have eu : v.heap.size < u.heap.size := by rw [hu]; simp
              have fu : wA.heap.size ≤ v.heap.size := (unhide hbw).size
              have hX : Hid (u.heap[X]? = some (.cells #[] 30 (0, 0))) := (b.block _ (by omega)).trans (unhide hX)
              have zX : X < u.heap.size := Nat.lt_of_lt_of_le zX b.size
              have hD0 := cell_later b hD0
              have hD1 := cell_later b hD1
              have hDf0 := (b.frozen (p := ⟨D, 0, none⟩) zD).trans hDf0
              have hDf1 := (b.frozen (p := ⟨D, 1, none⟩) zD).trans hDf1
              have zD : D < u.heap.size := Nat.lt_of_lt_of_le zD b.size
              have hbw := hide ((unhide hbw).trans (b.mono (unhide hbw).size))
              have p0 := cell_later b p0
              have p1 := cell_later b p1
              have hE : Hid (Clz.Ok (⟨v.heap.size, 2, [1, -1]⟩ : Clz) u 0) := by show Clz.Ok _ _ _; rw [hu]; exact clz_lit v 0 #[.int .i64 1, .int .i64 (-1)] [1, -1] rfl (by omega) (by simp) (unhide hLit)
              have nXE : X ≠ v.heap.size := by omega
              have nED : v.heap.size ≠ D := by omega
              rw [← hu]
              obtain ⟨E, hEe⟩ : ∃ z, z = v.heap.size := ⟨_, rfl⟩
              rw [← hEe] at hE nXE nED ⊢
              have zE : E < u.heap.size := by omega
              have yE : wA.heap.size ≤ E := by omega
              clear hu b eu fu hEe
              refine hK.out _ _ ?_ (fun hHeld => ?_)
              · exact ⟨p0, p1⟩
              clear hK K
              try simp only [List.getElem_toArray, List.getElem_cons_succ, List.getElem_cons_zero, Act.put, List.setIfInBounds_toArray, List.set_cons_zero, List.set_cons_succ]
              rw [← unhide hGo]
              exact goTo (N_2_6_10 X E D u hbw p0 p1 hX zX yX hE zE yE hD0 hD1 hDf0 hDf1 zD yD nXE nXD nED) (by kernel_rfl) (by kernel_rfl) (by rw [unhide ha0]; kernel_rfl)
          have N_6_7 : ∀ (E T : Nat) (v : World) (hbw : Hid (Below wA.heap.size wA v)) (p0 : v.cell? ⟨w1.heap.size, 0, none⟩ = some (.int .i64 (m : Int))) (p1 : v.cell? ⟨w1.heap.size, 1, none⟩ = some (.slice a Lc.length cp)) (hE : Hid (Clz.Ok (⟨E, 2, [1, -1]⟩ : Clz) v 0)) (zE : E < v.heap.size) (yE : wA.heap.size ≤ E) (hT : v.cell? ⟨T, 0, none⟩ = some (.slice (some ⟨E, 0, none⟩) 2 2)) (zT : T < v.heap.size) (yT : wA.heap.size ≤ T) (nET : E ≠ T), Go 6 #[true, true, false, true, true, false, true, true, false, false, false, false] ((a0.put (some 73) (.slice (some ⟨E, 0, none⟩) 2 2)).put (some 74) (.slice (some ⟨T, 0, none⟩) 1 1)) v := by
            intro E T v hbw p0 p1 hE zE yE hT zT yT nET
            rw [unhide hGo, unhide ha0]
            try simp only [List.getElem_toArray, List.getElem_cons_succ, List.getElem_cons_zero, Act.put, List.setIfInBounds_toArray, List.set_cons_zero, List.set_cons_succ]
            have hHeld : v.cell? ⟨w1.heap.size, 0, none⟩ = some (.int .i64 (m : Int)) ∧ v.cell? ⟨w1.heap.size, 1, none⟩ = some (.slice a Lc.length cp) := ⟨p0, p1⟩
            refine wpAnyH_ready (rs := [2, 10]) (by kernel_rfl) (by simp) ?_
            refine AllReadyH.cons rfl (fun K hK => ?_) (AllReadyH.cons rfl (fun K hK => ?_) AllReadyH.nil)
            · go_simp
              obtain ⟨u, hu⟩ : ∃ z, z = v.alloc (.cells #[] 30) := ⟨_, rfl⟩
              have b : Below v.heap.size v u := by rw [hu]; exact (Below.refl _ _).alloc (Nat.le_refl _) _
              have eu : v.heap.size < u.heap.size := by rw [hu]; simp
              have fu : wA.heap.size ≤ v.heap.size := (unhide hbw).size
              have hE := hide ((unhide hE).later b)
              have zE : E < u.heap.size := Nat.lt_of_lt_of_le zE b.size
              have hT := cell_later b hT
              have zT : T < u.heap.size := Nat.lt_of_lt_of_le zT b.size
              have hbw := hide ((unhide hbw).trans (b.mono (unhide hbw).size))
              have p0 := cell_later b p0
              have p1 := cell_later b p1
              have hX : Hid (u.heap[v.heap.size]? = some (.cells #[] 30 (0, 0))) := by show _ = _; rw [hu]; exact alloc_at rfl
              have nXE : v.heap.size ≠ E := by omega
              have nXT : v.heap.size ≠ T := by omega
              rw [← hu]
              obtain ⟨X, hXe⟩ : ∃ z, z = v.heap.size := ⟨_, rfl⟩
              rw [← hXe] at hX nXE nXT ⊢
              have zX : X < u.heap.size := by omega
              have yX : wA.heap.size ≤ X := by omega
              clear hu b eu fu hXe
              refine hK.out _ _ ?_ (fun hHeld => ?_)
              · exact ⟨p0, p1⟩
              clear hK K
              try simp only [List.getElem_toArray, List.getElem_cons_succ, List.getElem_cons_zero, Act.put, List.setIfInBounds_toArray, List.set_cons_zero, List.set_cons_succ]
              rw [← unhide hGo]
              exact goTo (N_2_6_7 X E T u hbw p0 p1 hX zX yX hE zE yE hT zT yT nXE nXT nET) (by kernel_rfl) (by kernel_rfl) (by rw [unhide ha0]; kernel_rfl)
            · go_simp
              obtain ⟨u, hu⟩ : ∃ z, z = v.alloc (.cells #[.int .i64 0, .slice none 0 0] 25) := ⟨_, rfl⟩
              have b : Below v.heap.size v u := by rw [hu]; exact (Below.refl _ _).alloc (Nat.le_refl _) _
              have eu : v.heap.size < u.heap.size := by rw [hu]; simp
              have fu : wA.heap.size ≤ v.heap.size := (unhide hbw).size
              have hE := hide ((unhide hE).later b)
              have zE : E < u.heap.size := Nat.lt_of_lt_of_le zE b.size
              have hT := cell_later b hT
              have zT : T < u.heap.size := Nat.lt_of_lt_of_le zT b.size
              have hbw := hide ((unhide hbw).trans (b.mono (unhide hbw).size))
              have p0 := cell_later b p0
              have p1 := cell_later b p1
              have hD0 : u.cell? ⟨v.heap.size, 0, none⟩ = some (.int .i64 0) := by rw [hu]; simp [go_sem]
              have hD1 : u.cell? ⟨v.heap.size, 1, none⟩ = some (.slice none 0 0) := by rw [hu]; simp [go_sem]
              have hDf0 : u.frozen? ⟨v.heap.size, 0, none⟩ = false := by rw [hu]; simp [go_sem]
              have hDf1 : u.frozen? ⟨v.heap.size, 1, none⟩ = false := by rw [hu]; simp [go_sem]
              have nED : E ≠ v.heap.size := by omega
              have nTD : T ≠ v.heap.size := by omega
              rw [← hu]
              obtain ⟨D, hDe⟩ : ∃ z, z = v.heap.size := ⟨_, rfl⟩
              rw [← hDe] at hD0 hD1 hDf0 hDf1 nED nTD ⊢
              have zD : D < u.heap.size := by omega
              have yD : wA.heap.size ≤ D := by omega
              clear hu b eu fu hDe
              refine hK.out _ _ ?_ (fun hHeld => ?_)
              · exact ⟨p0, p1⟩
              clear hK K
              try simp only [List.getElem_toArray, List.getElem_cons_succ, List.getElem_cons_zero, Act.put, List.setIfInBounds_toArray, List.set_cons_zero, List.set_cons_succ]
              rw [← unhide hGo]
              exact goTo (N_6_7_10 E T D u hbw p0 p1 hE zE yE hT zT yT hD0 hD1 hDf0 hDf1 zD yD nET nED nTD) (by kernel_rfl) (by kernel_rfl) (by rw [unhide ha0]; kernel_rfl)
          have N_6_10 : ∀ (E D : Nat) (v : World) (hbw : Hid (Below wA.heap.size wA v)) (p0 : v.cell? ⟨w1.heap.size, 0, none⟩ = some (.int .i64 (m : Int))) (p1 : v.cell? ⟨w1.heap.size, 1, none⟩ = some (.slice a Lc.length cp)) (hE : Hid (Clz.Ok (⟨E, 2, [1, -1]⟩ : Clz) v 0)) (zE : E < v.heap.size) (yE : wA.heap.size ≤ E) (hD0 : v.cell? ⟨D, 0, none⟩ = some (.int .i64 0)) (hD1 : v.cell? ⟨D, 1, none⟩ = some (.slice none 0 0)) (hDf0 : v.frozen? ⟨D, 0, none⟩ = false) (hDf1 : v.frozen? ⟨D, 1, none⟩ = false) (zD : D < v.heap.size) (yD : wA.heap.size ≤ D) (nED : E ≠ D), Go 6 #[true, true, false, true, true, false, true, false, false, false, true, false] ((a0.put (some 73) (.slice (some ⟨E, 0, none⟩) 2 2)).put (some 6) (.pointer (some ⟨D, 0, none⟩))) v := by
            intro E D v hbw p0 p1 hE zE yE hD0 hD1 hDf0 hDf1 zD yD nED
            rw [unhide hGo, unhide ha0]
            try simp only [List.getElem_toArray, List.getElem_cons_succ, List.getElem_cons_zero, Act.put, List.setIfInBounds_toArray, List.set_cons_zero, List.set_cons_succ]
            have hHeld : v.cell? ⟨w1.heap.size, 0, none⟩ = some (.int .i64 (m : Int)) ∧ v.cell? ⟨w1.heap.size, 1, none⟩ = some (.slice a Lc.length cp) := ⟨p0, p1⟩
            refine wpAnyH_ready (rs := [2, 7]) (by kernel_rfl) (by simp) ?_
            refine AllReadyH.cons rfl (fun K hK => ?_) (AllReadyH.cons rfl (fun K hK => ?_) AllReadyH.nil)
            · go_simp
              obtain ⟨u, hu⟩ : ∃ z, z = v.alloc (.cells #[] 30) := ⟨_, rfl⟩
              have b : Below v.heap.size v u := by rw [hu]; exact (Below.refl _ _).alloc (Nat.le_refl _) _
              have eu : v.heap.size < u.heap.size := by rw [hu]; simp
              have fu : wA.heap.size ≤ v.heap.size := (unhide hbw).size
              have hE := hide ((unhide hE).later b)
              have zE : E < u.heap.size := Nat.lt_of_lt_of_le zE b.size
              have hD0 := cell_later b hD0
              have hD1 := cell_later b hD1
              have hDf0 := (b.frozen (p := ⟨D, 0, none⟩) zD).trans hDf0
              have hDf1 := (b.frozen (p := ⟨D, 1, none⟩) zD).trans hDf1
              have zD : D < u.heap.size := Nat.lt_of_lt_of_le zD b.size
              have hbw := hide ((unhide hbw).trans (b.mono (unhide hbw).size))
              have p0 := cell_later b p0
              have p1 := cell_later b p1
              have hX : Hid (u.heap[v.heap.size]? = some (.cells #[] 30 (0, 0))) := by show _ = _; rw [hu]; exact alloc_at rfl
              have nXE : v.heap.size ≠ E := by omega
              have nXD : v.heap.size ≠ D := by omega
              rw [← hu]
              obtain ⟨X, hXe⟩ : ∃ z, z = v.heap.size := ⟨_, rfl⟩
              rw [← hXe] at hX nXE nXD ⊢
              have zX : X < u.heap.size := by omega
              have yX : wA.heap.size ≤ X := by omega
              clear hu b eu fu hXe
              refine hK.out _ _ ?_ (fun hHeld => ?_)
              · exact ⟨p0, p1⟩
              clear hK K
              try simp only [List.getElem_toArray, List.getElem_cons_succ, List.getElem_cons_zero, Act.put, List.setIfInBounds_toArray, List.set_cons_zero, List.set_cons_succ]
              rw [← unhide hGo]
              exact goTo (N_2_6_10 X E D u hbw p0 p1 hX zX yX hE zE yE hD0 hD1 hDf0 hDf1 zD yD nXE nXD nED) (by kernel_rfl) (by kernel_rfl) (by rw [unhide ha0]; kernel_rfl)
            · go_simp
              obtain ⟨u, hu⟩ : ∃ z, z = v.alloc (.cells #[.slice (some ⟨E, 0, none⟩) 2 2] 30) := ⟨_, rfl⟩
              have b : Below v.heap.size v u := by rw [hu]; exact (Below.refl _ _).alloc (Nat.le_refl _) _
              have eu : v.heap.size < u.heap.size := by rw [hu]; simp
              have fu : wA.heap.size ≤ v.heap.size := (unhide hbw).size
              have hE := hide ((unhide hE).later b)
              have zE : E < u.heap.size := Nat.lt_of_lt_of_le zE b.size
              have hD0 := cell_later b hD0
              have hD1 := cell_later b hD1
              have hDf0 := (b.frozen (p := ⟨D, 0, none⟩) zD).trans hDf0
              have hDf1 := (b.frozen (p := ⟨D, 1, none⟩) zD).trans hDf1
              have zD : D < u.heap.size := Nat.lt_of_lt_of_le zD b.size
              have hbw := hide ((unhide hbw).trans (b.mono (unhide hbw).size))
              have p0 := cell_later b p0
              have p1 := cell_later b p1
              have hT : u.cell? ⟨v.heap.size, 0, none⟩ = some (.slice (some ⟨E, 0, none⟩) 2 2) := by rw [hu]; simp [go_sem]
              have nET : E ≠ v.heap.size := by omega
              have nTD : v.heap.size ≠ D := by omega
              rw [← hu]
              obtain ⟨T, hTe⟩ : ∃ z, z = v.heap.size := ⟨_, rfl⟩
              rw [← hTe] at hT nET nTD ⊢
              have zT : T < u.heap.size := by omega
              have yT : wA.heap.size ≤ T := by omega
              clear hu b eu fu hTe
              refine hK.out _ _ ?_ (fun hHeld => ?_)
              · exact ⟨p0, p1⟩
              clear hK K
              try simp only [List.getElem_toArray, List.getElem_cons_succ, List.getElem_cons_zero, Act.put, List.setIfInBounds_toArray, List.set_cons_zero, List.set_cons_succ]
              rw [← unhide hGo]
              exact goTo (N_6_7_10 E T D u hbw p0 p1 hE zE yE hT zT yT hD0 hD1 hDf0 hDf1 zD yD nET nED nTD) (by kernel_rfl) (by kernel_rfl) (by rw [unhide ha0]; kernel_rfl)
          have N_2 : ∀ (X : Nat) (v : World) (hbw : Hid (Below wA.heap.size wA v)) (p0 : v.cell? ⟨w1.heap.size, 0, none⟩ = some (.int .i64 (m : Int))) (p1 : v.cell? ⟨w1.heap.size, 1, none⟩ = some (.slice a Lc.length cp)) (hX : Hid (v.heap[X]? = some (.cells #[] 30 (0, 0)))) (zX : X < v.heap.size) (yX : wA.heap.size ≤ X), Go 7 #[true, true, true, true, true, false, false, false, false, false, false, false] (a0.put (some 69) (.slice (some ⟨X, 0, none⟩) 0 0)) v := by
            intro X v hbw p0 p1 hX zX yX
            rw [unhide hGo, unhide ha0]
            try simp only [List.getElem_toArray, List.getElem_cons_succ, List.getElem_cons_zero, Act.put, List.setIfInBounds_toArray, List.set_cons_zero, List.set_cons_succ]
            have hHeld : v.cell? ⟨w1.heap.size, 0, none⟩ = some (.int .i64 (m : Int)) ∧ v.cell? ⟨w1.heap.size, 1, none⟩ = some (.slice a Lc.length cp) := ⟨p0, p1⟩
            refine wpAnyH_ready (rs := [5, 6, 10]) (by kernel_rfl) (by simp) ?_
            refine AllReadyH.cons rfl (fun K hK => ?_) (AllReadyH.cons rfl (fun K hK => ?_) (AllReadyH.cons rfl (fun K hK => ?_) AllReadyH.nil))
            · apply step_clz_copy (R := 0) (Ls := Lc) (base := wA.heap.size)
              case hgd => rfl
              case ho => rfl
              case hty => rfl
              case hs => rfl
              case hX => exact unhide hX
              case hbX => exact yX
              case hbase => exact (unhide hbw).size
              case hx => rfl
              case hc => exact (unhide HC0).later (unhide hbw)
              case hl => omega
              case' h => intro g5 c5 u o5 gr5 at5 lt5
              have mv5 : Mov X _ u := mov_of_grown gr5
              have p0 := mv5.cell p0 (by simp only; omega)
              have p1 := mv5.cell p1 (by simp only; omega)
              have hbw := hide ((unhide hbw).trans (mv5.below yX (unhide hbw).size))
              have hO := hide o5
              have zO := lt5
              have yO : wA.heap.size ≤ g5 := own_base o5
              clear o5 gr5 at5 lt5 mv5
              refine hK.out _ _ ?_ (fun hHeld => ?_)
              · exact ⟨p0, p1⟩
              clear hK K
              try simp only [List.getElem_toArray, List.getElem_cons_succ, List.getElem_cons_zero, Act.put, List.setIfInBounds_toArray, List.set_cons_zero, List.set_cons_succ]
              rw [← unhide hGo]
              exact goTo (N_2_5 X g5 c5 u hbw p0 p1 hO zO yO) (by kernel_rfl) (by kernel_rfl) (by rw [unhide ha0]; kernel_rfl)
            · go_simp
              obtain ⟨u, hu⟩ : ∃ z, z = v.alloc (.cells #[.int .i64 1, .int .i64 (-1)] 3) := ⟨_, rfl⟩
              have b : Below v.heap.size v u := by rw [hu]; exact (Below.refl _ _).alloc (Nat.le_refl _) _
              have eu : v.heap.size < u.heap.size := by rw [hu]; simp
              have fu : wA.heap.size ≤ v.heap.size := (unhide hbw).size
              have hX : Hid (u.heap[X]? = some (.cells #[] 30 (0, 0))) := (b.block _ (by omega)).trans (unhide hX)
              have zX : X < u.heap.size := Nat.lt_of_lt_of_le zX b.size
              have hbw := hide ((unhide hbw).trans (b.mono (unhide hbw).size))
              have p0 := cell_later b p0
              have p1 := cell_later b p1
              have hE : Hid (Clz.Ok (⟨v.heap.size, 2, [1, -1]⟩ : Clz) u 0) := by show Clz.Ok _ _ _; rw [hu]; exact clz_lit v 0 #[.int .i64 1, .int .i64 (-1)] [1, -1] rfl (by omega) (by simp) (unhide hLit)
              have nXE : X ≠ v.heap.size := by omega
              rw [← hu]
              obtain ⟨E, hEe⟩ : ∃ z, z = v.heap.size := ⟨_, rfl⟩
              rw [← hEe] at hE nXE ⊢
              have zE : E < u.heap.size := by omega
              have yE : wA.heap.size ≤ E := by omega
              clear hu b eu fu hEe
              refine hK.out _ _ ?_ (fun hHeld => ?_)
              · exact ⟨p0, p1⟩
              clear hK K
              try simp only [List.getElem_toArray, List.getElem_cons_succ, List.getElem_cons_zero, Act.put, List.setIfInBounds_toArray, List.set_cons_zero, List.set_cons_succ]
              rw [← unhide hGo]
              exact goTo (N_2_6 X E u hbw p0 p1 hX zX yX hE zE yE nXE) (by kernel_rfl) (by kernel_rfl) (by rw [unhide ha0]; kernel_rfl)
            · go_simp
              obtain ⟨u, hu⟩ : ∃ z, z = v.alloc (.cells #[.int .i64 0, .slice none 0 0] 25) := ⟨_, rfl⟩
              have b : Below v.heap.size v u := by rw [hu]; exact (Below.refl _ _).alloc (Nat.le_refl _) _
              have eu : v.heap.size < u.heap.size := by rw [hu]; simp
              have fu : wA.heap.size ≤ v.heap.size := (unhide hbw).size
              have hX : Hid (u.heap[X]? = some (.cells #[] 30 (0, 0))) := (b.block _ (by omega)).trans (unhide hX)
              have zX : X < u.heap.size := Nat.lt_of_lt_of_le zX b.size
              have hbw := hide ((unhide hbw).trans (b.mono (unhide hbw).size))
              have p0 := cell_later b p0
              have p1 := cell_later b p1
              have hD0 : u.cell? ⟨v.heap.size, 0, none⟩ = some (.int .i64 0) := by rw [hu]; simp [go_sem]
              have hD1 : u.cell? ⟨v.heap.size, 1, none⟩ = some (.slice none 0 0) := by rw [hu]; simp [go_sem]
              have hDf0 : u.frozen? ⟨v.heap.size, 0, none⟩ = false := by rw [hu]; simp [go_sem]
              have hDf1 : u.frozen? ⟨v.heap.size, 1, none⟩ = false := by rw [hu]; simp [go_sem]
              have nXD : X ≠ v.heap.size := by omega
              rw [← hu]
              obtain ⟨D, hDe⟩ : ∃ z, z = v.heap.size := ⟨_, rfl⟩
              rw [← hDe] at hD0 hD1 hDf0 hDf1 nXD ⊢
              have zD : D < u.heap.size := by omega
              have yD : wA.heap.size ≤ D := by omega
              clear hu b eu fu hDe
              refine hK.out _ _ ?_ (fun hHeld => ?_)
              · exact ⟨p0, p1⟩
              clear hK K
              try simp only [List.getElem_toArray, List.getElem_cons_succ, List.getElem_cons_zero, Act.put, List.setIfInBounds_toArray, List.set_cons_zero, List.set_cons_succ]
              rw [← unhide hGo]
              exact goTo (N_2_10 X D u hbw p0 p1 hX zX yX hD0 hD1 hDf0 hDf1 zD yD nXD) (by kernel_rfl) (by kernel_rfl) (by rw [unhide ha0]; kernel_rfl)
          have N_6 : ∀ (E : Nat) (v : World) (hbw : Hid (Below wA.heap.size wA v)) (p0 : v.cell? ⟨w1.heap.size, 0, none⟩ = some (.int .i64 (m : Int))) (p1 : v.cell? ⟨w1.heap.size, 1, none⟩ = some (.slice a Lc.length cp)) (hE : Hid (Clz.Ok (⟨E, 2, [1, -1]⟩ : Clz) v 0)) (zE : E < v.heap.size) (yE : wA.heap.size ≤ E), Go 7 #[true, true, false, true, true, false, true, false, false, false, false, false] (a0.put (some 73) (.slice (some ⟨E, 0, none⟩) 2 2)) v := by
            intro E v hbw p0 p1 hE zE yE
            rw [unhide hGo, unhide ha0]
            try simp only [List.getElem_toArray, List.getElem_cons_succ, List.getElem_cons_zero, Act.put, List.setIfInBounds_toArray, List.set_cons_zero, List.set_cons_succ]
            have hHeld : v.cell? ⟨w1.heap.size, 0, none⟩ = some (.int .i64 (m : Int)) ∧ v.cell? ⟨w1.heap.size, 1, none⟩ = some (.slice a Lc.length cp) := ⟨p0, p1⟩
            refine wpAnyH_ready (rs := [2, 7, 10]) (by kernel_rfl) (by simp) ?_
            refine AllReadyH.cons rfl (fun K hK => ?_) (AllReadyH.cons rfl (fun K hK => ?_) (AllReadyH.cons rfl (fun K hK => ?_) AllReadyH.nil))
            · go_simp
              obtain ⟨u, hu⟩ : ∃ z, z = v.alloc (.cells #[] 30) := ⟨_, rfl⟩
              have b : Below v.heap.size v u := by rw [hu]; exact (Below.refl _ _).alloc (Nat.le_refl _) _
              have eu : v.heap.size < u.heap.size := by rw [hu]; simp
              have fu : wA.heap.size ≤ v.heap.size := (unhide hbw).size
              have hE := hide ((unhide hE).later b)
              have zE : E < u.heap.size := Nat.lt_of_lt_of_le zE b.size
              have hbw := hide ((unhide hbw).trans (b.mono (unhide hbw).size))
              have p0 := cell_later b p0
              have p1 := cell_later b p1
              have hX : Hid (u.heap[v.heap.size]? = some (.cells #[] 30 (0, 0))) := by show _ = _; rw [hu]; exact alloc_at rfl
              have nXE : v.heap.size ≠ E := by omega
              rw [← hu]
              obtain ⟨X, hXe⟩ : ∃ z, z = v.heap.size := ⟨_, rfl⟩
              rw [← hXe] at hX nXE ⊢
              have zX : X < u.heap.size := by omega
              have yX : wA.heap.size ≤ X := by omega
              clear hu b eu fu hXe
              refine hK.out _ _ ?_ (fun hHeld => ?_)
              · exact ⟨p0, p1⟩
              clear hK K
              try simp only [List.getElem_toArray, List.getElem_cons_succ, List.getElem_cons_zero, Act.put, List.setIfInBounds_toArray, List.set_cons_zero, List.set_cons_succ]
              rw [← unhide hGo]
              exact goTo (N_2_6 X E u hbw p0 p1 hX zX yX hE zE yE nXE) (by kernel_rfl) (by kernel_rfl) (by rw [unhide ha0]; kernel_rfl)
            · go_simp
              obtain ⟨u, hu⟩ : ∃ z, z = v.alloc (.cells #[.slice (some ⟨E, 0, none⟩) 2 2] 30) := ⟨_, rfl⟩
              have b : Below v.heap.size v u := by rw [hu]; exact (Below.refl _ _).alloc (Nat.le_refl _) _
              have eu : v.heap.size < u.heap.size := by rw [hu]; simp
              have fu : wA.heap.size ≤ v.heap.size := (unhide hbw).size
              have hE := hide ((unhide hE).later b)
              have zE : E < u.heap.size := Nat.lt_of_lt_of_le zE b.size
              have hbw := hide ((unhide hbw).trans (b.mono (unhide hbw).size))
              have p0 := cell_later b p0
              have p1 := cell_later b p1
              have hT : u.cell? ⟨v.heap.size, 0, none⟩ = some (.slice (some ⟨E, 0, none⟩) 2 2) := by rw [hu]; simp [go_sem]
              have nET : E ≠ v.heap.size := by omega
              rw [← hu]
              obtain ⟨T, hTe⟩ : ∃ z, z = v.heap.size := ⟨_, rfl⟩
              rw [← hTe] at hT nET ⊢
              have zT : T < u.heap.size := by omega
              have yT : wA.heap.size ≤ T := by omega
              clear hu b eu fu hTe
              refine hK.out _ _ ?_ (fun hHeld => ?_)
              · exact ⟨p0, p1⟩
              clear hK K
              try simp only [List.getElem_toArray, List.getElem_cons_succ, List.getElem_cons_zero, Act.put, List.setIfInBounds_toArray, List.set_cons_zero, List.set_cons_succ]
              rw [← unhide hGo]
              exact goTo (N_6_7 E T u hbw p0 p1 hE zE yE hT zT yT nET) (by kernel_rfl) (by kernel_rfl) (by rw [unhide ha0]; kernel_rfl)
            · go_simp
              obtain ⟨u, hu⟩ : ∃ z, z = v.alloc (.cells #[.int .i64 0, .slice none 0 0] 25) := ⟨_, rfl⟩
              have b : Below v.heap.size v u := by rw [hu]; exact (Below.refl _ _).alloc (Nat.le_refl _) _
              have eu : v.heap.size < u.heap.size := by rw [hu]; simp
              have fu : wA.heap.size ≤ v.heap.size := (unhide hbw).size
              have hE := hide ((unhide hE).later b)
              have zE : E < u.heap.size := Nat.lt_of_lt_of_le zE b.size
              have hbw := hide ((unhide hbw).trans (b.mono (unhide hbw).size))
              have p0 := cell_later b p0
              have p1 := cell_later b p1
              have hD0 : u.cell? ⟨v.heap.size, 0, none⟩ = some (.int .i64 0) := by rw [hu]; simp [go_sem]
              have hD1 : u.cell? ⟨v.heap.size, 1, none⟩ = some (.slice none 0 0) := by rw [hu]; simp [go_sem]
              have hDf0 : u.frozen? ⟨v.heap.size, 0, none⟩ = false := by rw [hu]; simp [go_sem]
              have hDf1 : u.frozen? ⟨v.heap.size, 1, none⟩ = false := by rw [hu]; simp [go_sem]
              have nED : E ≠ v.heap.size := by omega
              rw [← hu]
              obtain ⟨D, hDe⟩ : ∃ z, z = v.heap.size := ⟨_, rfl⟩
              rw [← hDe] at hD0 hD1 hDf0 hDf1 nED ⊢
              have zD : D < u.heap.size := by omega
              have yD : wA.heap.size ≤ D := by omega
              clear hu b eu fu hDe
              refine hK.out _ _ ?_ (fun hHeld => ?_)
              · exact ⟨p0, p1⟩
              clear hK K
              try simp only [List.getElem_toArray, List.getElem_cons_succ, List.getElem_cons_zero, Act.put, List.setIfInBounds_toArray, List.set_cons_zero, List.set_cons_succ]
              rw [← unhide hGo]
              exact goTo (N_6_10 E D u hbw p0 p1 hE zE yE hD0 hD1 hDf0 hDf1 zD yD nED) (by kernel_rfl) (by kernel_rfl) (by rw [unhide ha0]; kernel_rfl)
          have N_10 : ∀ (D : Nat) (v : World) (hbw : Hid (Below wA.heap.size wA v)) (p0 : v.cell? ⟨w1.heap.size, 0, none⟩ = some (.int .i64 (m : Int))) (p1 : v.cell? ⟨w1.heap.size, 1, none⟩ = some (.slice a Lc.length cp)) (hD0 : v.cell? ⟨D, 0, none⟩ = some (.int .i64 0)) (hD1 : v.cell? ⟨D, 1, none⟩ = some (.slice none 0 0)) (hDf0 : v.frozen? ⟨D, 0, none⟩ = false) (hDf1 : v.frozen? ⟨D, 1, none⟩ = false) (zD : D < v.heap.size) (yD : wA.heap.size ≤ D), Go 7 #[true, true, false, true, true, false, false, false, false, false, true, false] (a0.put (some 6) (.pointer (some ⟨D, 0, none⟩))) v := by
            intro D v hbw p0 p1 hD0 hD1 hDf0 hDf1 zD yD
            rw [unhide hGo, unhide ha0]
            try simp only [List.getElem_toArray, List.getElem_cons_succ, List.getElem_cons_zero, Act.put, List.setIfInBounds_toArray, List.set_cons_zero, List.set_cons_succ]
            have hHeld : v.cell? ⟨w1.heap.size, 0, none⟩ = some (.int .i64 (m : Int)) ∧ v.cell? ⟨w1.heap.size, 1, none⟩ = some (.slice a Lc.length cp) := ⟨p0, p1⟩
            refine wpAnyH_ready (rs := [2, 6]) (by kernel_rfl) (by simp) ?_
            refine AllReadyH.cons rfl (fun K hK => ?_) (AllReadyH.cons rfl (fun K hK => ?_) AllReadyH.nil)
            · go_simp
              obtain ⟨u, hu⟩ : ∃ z, z = v.alloc (.cells #[] 30) := ⟨_, rfl⟩
              have b : Below v.heap.size v u := by rw [hu]; exact (Below.refl _ _).alloc (Nat.le_refl _) _
              have eu : v.heap.size < u.heap.size := by rw [hu]; simp
              have fu : wA.heap.size ≤ v.heap.size := (unhide hbw).size
              have hD0 := cell_later b hD0
              have hD1 := cell_later b hD1
              have hDf0 := (b.frozen (p := ⟨D, 0, none⟩) zD).trans hDf0
              have hDf1 := (b.frozen (p := ⟨D, 1, none⟩) zD).trans hDf1
              have zD : D < u.heap.size := Nat.lt_of_lt_of_le zD b.size
              have hbw := hide ((unhide hbw).trans (b.mono (unhide hbw).size))
              have p0 := cell_later b p0
              have p1 := cell_later b p1
              have hX : Hid (u.heap[v.heap.size]? = some (.cells #[] 30 (0, 0))) := by show _ = _; rw [hu]; exact alloc_at rfl
              have nXD : v.heap.size ≠ D := by omega
              rw [← hu]
              obtain ⟨X, hXe⟩ : ∃ z, z = v.heap.size := ⟨_, rfl⟩
              rw [← hXe] at hX nXD ⊢
              have zX : X < u.heap.size := by omega
              have yX : wA.heap.size ≤ X := by omega
              clear hu b eu fu hXe
              refine hK.out _ _ ?_ (fun hHeld => ?_)
              · exact ⟨p0, p1⟩
              clear hK K
              try simp only [List.getElem_toArray, List.getElem_cons_succ, List.getElem_cons_zero, Act.put, List.setIfInBounds_toArray, List.set_cons_zero, List.set_cons_succ]
              rw [← unhide hGo]
              exact goTo (N_2_10 X D u hbw p0 p1 hX zX yX hD0 hD1 hDf0 hDf1 zD yD nXD) (by kernel_rfl) (by kernel_rfl) (by rw [unhide ha0]; kernel_rfl)
            · go_simp
              obtain ⟨u, hu⟩ : ∃ z, z = v.alloc (.cells #[.int .i64 1, .int .i64 (-1)] 3) := ⟨_, rfl⟩
              have b : Below v.heap.size v u := by rw [hu]; exact (Below.refl _ _).alloc (Nat.le_refl _) _
              have eu : v.heap.size < u.heap.size := by rw [hu]; simp
              have fu : wA.heap.size ≤ v.heap.size := (unhide hbw).size
              have hD0 := cell_later b hD0
              have hD1 := cell_later b hD1
              have hDf0 := (b.frozen (p := ⟨D, 0, none⟩) zD).trans hDf0
              have hDf1 := (b.frozen (p := ⟨D, 1, none⟩) zD).trans hDf1
              have zD : D < u.heap.size := Nat.lt_of_lt_of_le zD b.size
              have hbw := hide ((unhide hbw).trans (b.mono (unhide hbw).size))
              have p0 := cell_later b p0
              have p1 := cell_later b p1
              have hE : Hid (Clz.Ok (⟨v.heap.size, 2, [1, -1]⟩ : Clz) u 0) := by show Clz.Ok _ _ _; rw [hu]; exact clz_lit v 0 #[.int .i64 1, .int .i64 (-1)] [1, -1] rfl (by omega) (by simp) (unhide hLit)
              have nED : v.heap.size ≠ D := by omega
              rw [← hu]
              obtain ⟨E, hEe⟩ : ∃ z, z = v.heap.size := ⟨_, rfl⟩
              rw [← hEe] at hE nED ⊢
              have zE : E < u.heap.size := by omega
              have yE : wA.heap.size ≤ E := by omega
              clear hu b eu fu hEe
              refine hK.out _ _ ?_ (fun hHeld => ?_)
              · exact ⟨p0, p1⟩
              clear hK K
              try simp only [List.getElem_toArray, List.getElem_cons_succ, List.getElem_cons_zero, Act.put, List.setIfInBounds_toArray, List.set_cons_zero, List.set_cons_succ]
              rw [← unhide hGo]
              exact goTo (N_6_10 E D u hbw p0 p1 hE zE yE hD0 hD1 hDf0 hDf1 zD yD nED) (by kernel_rfl) (by kernel_rfl) (by rw [unhide ha0]; kernel_rfl)
          have N_0 : ∀ (v : World) (hbw : Hid (Below wA.heap.size wA v)) (p0 : v.cell? ⟨w1.heap.size, 0, none⟩ = some (.int .i64 (m : Int))) (p1 : v.cell? ⟨w1.heap.size, 1, none⟩ = some (.slice a Lc.length cp)), Go 8 #[true, true, false, true, true, false, false, false, false, false, false, false] a0 v := by
            intro v hbw p0 p1
            rw [unhide hGo, unhide ha0]
            try simp only [List.getElem_toArray, List.getElem_cons_succ, List.getElem_cons_zero, Act.put, List.setIfInBounds_toArray, List.set_cons_zero, List.set_cons_succ]
            have hHeld : v.cell? ⟨w1.heap.size, 0, none⟩ = some (.int .i64 (m : Int)) ∧ v.cell? ⟨w1.heap.size, 1, none⟩ = some (.slice a Lc.length cp) := ⟨p0, p1⟩
            refine wpAnyH_ready (rs := [2, 6, 10]) (by kernel_rfl) (by simp) ?_
            refine AllReadyH.cons rfl (fun K hK => ?_) (AllReadyH.cons rfl (fun K hK => ?_) (AllReadyH.cons rfl (fun K hK => ?_) AllReadyH.nil))
            · go_simp
              obtain ⟨u, hu⟩ : ∃ z, z = v.alloc (.cells #[] 30) := ⟨_, rfl⟩
              have b : Below v.heap.size v u := by rw [hu]; exact (Below.refl _ _).alloc (Nat.le_refl _) _
              have eu : v.heap.size < u.heap.size := by rw [hu]; simp
              have fu : wA.heap.size ≤ v.heap.size := (unhide hbw).size
              have hbw := hide ((unhide hbw).trans (b.mono (unhide hbw).size))
              have p0 := cell_later b p0
              have p1 := cell_later b p1
              have hX : Hid (u.heap[v.heap.size]? = some (.cells #[] 30 (0, 0))) := by show _ = _; rw [hu]; exact alloc_at rfl
              rw [← hu]
              obtain ⟨X, hXe⟩ : ∃ z, z = v.heap.size := ⟨_, rfl⟩
              rw [← hXe] at hX ⊢
              have zX : X < u.heap.size := by omega
              have yX : wA.heap.size ≤ X := by omega
              clear hu b eu fu hXe
              refine hK.out _ _ ?_ (fun hHeld => ?_)
              · exact ⟨p0, p1⟩
              clear hK K
              try simp only [List.getElem_toArray, List.getElem_cons_succ, List.getElem_cons_zero, Act.put, List.setIfInBounds_toArray, List.set_cons_zero, List.set_cons_succ]
              rw [← unhide hGo]
              exact goTo (N_2 X u hbw p0 p1 hX zX yX) (by kernel_rfl) (by kernel_rfl) (by rw [unhide ha0]; kernel_rfl)
            · go_simp
              obtain ⟨u, hu⟩ : ∃ z, z = v.alloc (.cells #[.int .i64 1, .int .i64 (-1)] 3) := ⟨_, rfl⟩
              have b : Below v.heap.size v u := by rw [hu]; exact (Below.refl _ _).alloc (Nat.le_refl _) _
              have eu : v.heap.size < u.heap.size := by rw [hu]; simp
              have fu : wA.heap.size ≤ v.heap.size := (unhide hbw).size
              have hbw := hide ((unhide hbw).trans (b.mono (unhide hbw).size))
              have p0 := cell_later b p0
              have p1 := cell_later b p1
              have hE : Hid (Clz.Ok (⟨v.heap.size, 2, [1, -1]⟩ : Clz) u 0) := by show Clz.Ok _ _ _; rw [hu]; exact clz_lit v 0 #[.int .i64 1, .int .i64 (-1)] [1, -1] rfl (by omega) (by simp) (unhide hLit)
              rw [← hu]
              obtain ⟨E, hEe⟩ : ∃ z, z = v.heap.size := ⟨_, rfl⟩
              rw [← hEe] at hE ⊢
              have zE : E < u.heap.size := by omega
              have yE : wA.heap.size ≤ E := by omega
              clear hu b eu fu hEe
              refine hK.out _ _ ?_ (fun hHeld => ?_)
              · exact ⟨p0, p1⟩
              clear hK K
              try simp only [List.getElem_toArray, List.getElem_cons_succ, List.getElem_cons_zero, Act.put, List.setIfInBounds_toArray, List.set_cons_zero, List.set_cons_succ]
              rw [← unhide hGo]
              exact goTo (N_6 E u hbw p0 p1 hE zE yE) (by kernel_rfl) (by kernel_rfl) (by rw [unhide ha0]; kernel_rfl)
            · go_simp
              obtain ⟨u, hu⟩ : ∃ z, z = v.alloc (.cells #[.int .i64 0, .slice none 0 0] 25) := ⟨_, rfl⟩
              have b : Below v.heap.size v u := by rw [hu]; exact (Below.refl _ _).alloc (Nat.le_refl _) _
              have eu : v.heap.size < u.heap.size := by rw [hu]; simp
              have fu : wA.heap.size ≤ v.heap.size := (unhide hbw).size
              have hbw := hide ((unhide hbw).trans (b.mono (unhide hbw).size))
              have p0 := cell_later b p0
              have p1 := cell_later b p1
              have hD0 : u.cell? ⟨v.heap.size, 0, none⟩ = some (.int .i64 0) := by rw [hu]; simp [go_sem]
              have hD1 : u.cell? ⟨v.heap.size, 1, none⟩ = some (.slice none 0 0) := by rw [hu]; simp [go_sem]
              have hDf0 : u.frozen? ⟨v.heap.size, 0, none⟩ = false := by rw [hu]; simp [go_sem]
              have hDf1 : u.frozen? ⟨v.heap.size, 1, none⟩ = false := by rw [hu]; simp [go_sem]
              rw [← hu]
              obtain ⟨D, hDe⟩ : ∃ z, z = v.heap.size := ⟨_, rfl⟩
              rw [← hDe] at hD0 hD1 hDf0 hDf1 ⊢
              have zD : D < u.heap.size := by omega
              have yD : wA.heap.size ≤ D := by omega
              clear hu b eu fu hDe
              refine hK.out _ _ ?_ (fun hHeld => ?_)
              · exact ⟨p0, p1⟩
              clear hK K
              try simp only [List.getElem_toArray, List.getElem_cons_succ, List.getElem_cons_zero, Act.put, List.setIfInBounds_toArray, List.set_cons_zero, List.set_cons_succ]
              rw [← unhide hGo]
              exact goTo (N_10 D u hbw p0 p1 hD0 hD1 hDf0 hDf1 zD yD) (by kernel_rfl) (by kernel_rfl) (by rw [unhide ha0]; kernel_rfl)
          exact goTo (N_0 wd hbw p0 p1) (by kernel_rfl) (by kernel_rfl) rfl
        case rest =>
          obtain ⟨Db, gb, cb, eb, rfl, db0, db1, Cx, bx⟩ := hcut
          obtain ⟨wB, rfl⟩ : ∃ z, z = wc := ⟨_, rfl⟩
          replace bw := bw.trans (bx.mono bw.size)
          replace BLw := BLw.trans (bx.mono BLw.size)
          replace p0 := (bw.cell (p := ⟨w1.heap.size, 0, none⟩) lB).trans (unhide HP0)
          replace p1 := (bw.cell (p := ⟨w1.heap.size, 1, none⟩) lB).trans (unhide HP1)
          replace da0 := cell_later bx da0
          replace da1 := cell_later bx da1
          replace HA := hide ((unhide HA).later bx)
          have HB := hide Cx
          clear Cx bx
          go_wp2_with fail
          go_cut [7] (fun s8 wx => ∃ (D g2 c2 e1 : Nat), s8 = .pointer (some ⟨D, 0, none⟩) ∧ wx.cell? ⟨D, 0, none⟩ = some (.int .i64 (m : Int)) ∧ wx.cell? ⟨D, 1, none⟩ = some (.slice (some ⟨g2, 0, none⟩) (Lc.length + 1) c2) ∧ ClzAt wx 0 (.slice (some ⟨g2, 0, none⟩) (Lc.length + 1) c2) (Lc ++ [⟨e1, 1, [0]⟩]) ∧ Below wB.heap.size wB wx)
          case first =>
            clear BLw BL FitC HP0 HP1 HCB
            clear da0 da1 HA db0 db1 HB
            refine wp_region_held_drew (S := fun w' => w'.cell? ⟨w1.heap.size, 0, none⟩ = some (.int .i64 (m : Int)) ∧ w'.cell? ⟨w1.heap.size, 1, none⟩ = some (.slice a Lc.length cp)) (by kernel_rfl) ?_ (fun hHeld => ?_)
            · exact ⟨p0, p1⟩
            have HC0 := hide ((unhide HC).later bw).low
            have wlr : w1.heap.size < wB.heap.size := Nat.lt_of_lt_of_le lB bw.size
            have wpos : 0 < wB.heap.size := by omega
            have hLit : Hid (∀ x, x ∈ ([0] : List Int) → W64 x) := by intro x hx; simp at hx; unfold W64; omega
            obtain ⟨wd, hwd⟩ : ∃ x, x = wB.drew := ⟨_, rfl⟩
            have hbw : Hid (Below wB.heap.size wB wd) := by show _; rw [hwd]; exact (Below.refl _ _).drew
            have p0 : wd.cell? ⟨w1.heap.size, 0, none⟩ = some (.int .i64 (m : Int)) := by rw [hwd]; exact p0
            have p1 : wd.cell? ⟨w1.heap.size, 1, none⟩ = some (.slice a Lc.length cp) := by rw [hwd]; exact p1
            rw [← hwd]
            (try rw [← hwd] at hHeld)
            clear hwd
            refine wpAnyH_take (i := 0) (v := ?_) rfl (by kernel_rfl) (by kernel_rfl) (by kernel_rfl) (fun _ _ _ h => h) (Or.inl ⟨by rfl, ?_⟩) (by assumption) ?_
            rotate_left
            · (intro w hSw; (try dsimp only at hSw); first | (go_simp; done) | (go_simp; with_reducible rfl))
            try simp only [List.getElem_toArray, List.getElem_cons_succ, List.getElem_cons_zero, Act.put, List.setIfInBounds_toArray, List.set_cons_zero, List.set_cons_succ]
            refine wpAnyH_take (i := 1) (v := ?_) rfl (by kernel_rfl) (by kernel_rfl) (by kernel_rfl) (fun _ _ _ h => h) (Or.inl ⟨by rfl, ?_⟩) (by assumption) ?_
            rotate_left
            · (intro w hSw; (try dsimp only at hSw); first | (go_simp; done) | (go_simp; with_reducible rfl))
            try simp only [List.getElem_toArray, List.getElem_cons_succ, List.getElem_cons_zero, Act.put, List.setIfInBounds_toArray, List.set_cons_zero, List.set_cons_succ]
            refine wpAnyH_take (i := 3) (v := ?_) rfl (by kernel_rfl) (by kernel_rfl) (by kernel_rfl) (fun _ _ _ h => h) (Or.inl ⟨by rfl, ?_⟩) (by assumption) ?_
            rotate_left
            · (intro w hSw; (try dsimp only at hSw); first | (go_simp; done) | (go_simp; with_reducible rfl))
            try simp only [List.getElem_toArray, List.getElem_cons_succ, List.getElem_cons_zero, Act.put, List.setIfInBounds_toArray, List.set_cons_zero, List.set_cons_succ]
            refine wpAnyH_take (i := 4) (v := ?_) rfl (by kernel_rfl) (by kernel_rfl) (by kernel_rfl) (fun _ _ _ h => h) (Or.inl ⟨by rfl, ?_⟩) (by assumption) ?_
            rotate_left
            · (intro w hSw; (try dsimp only at hSw); first | (go_simp; done) | (go_simp; with_reducible rfl))
            try simp only [List.getElem_toArray, List.getElem_cons_succ, List.getElem_cons_zero, Act.put, List.setIfInBounds_toArray, List.set_cons_zero, List.set_cons_succ]
            refine withGo (fun Go a0 hGo ha0 => ?_)
            have N_2_5_6_7_8_10 : ∀ (X g5 c5 E T g8 c8 D : Nat) (v : World) (hbw : Hid (Below wB.heap.size wB v)) (p0 : v.cell? ⟨w1.heap.size, 0, none⟩ = some (.int .i64 (m : Int))) (p1 : v.cell? ⟨w1.heap.size, 1, none⟩ = some (.slice a Lc.length cp)) (hE : Hid (Clz.Ok (⟨E, 1, [0]⟩ : Clz) v 0)) (zE : E < v.heap.size) (yE : wB.heap.size ≤ E) (hF : Hid (v.ownsRow wB.heap.size 30 1 (.slice (some ⟨g8, 0, none⟩) (Lc.length + 1) c8) (Lc.length + 1) (scells (Lc ++ [(⟨E, 1, [0]⟩ : Clz)])))) (zF : g8 < v.heap.size) (yF : wB.heap.size ≤ g8) (hD0 : v.cell? ⟨D, 0, none⟩ = some (.int .i64 0)) (hD1 : v.cell? ⟨D, 1, none⟩ = some (.slice none 0 0)) (hDf0 : v.frozen? ⟨D, 0, none⟩ = false) (hDf1 : v.frozen? ⟨D, 1, none⟩ = false) (zD : D < v.heap.size) (yD : wB.heap.size ≤ D) (nEF : E ≠ g8) (nED : E ≠ D) (nFD : g8 ≠ D), Go 1 #[true, true, true, true, true, true, true, true, true, true, true, false] (((((((a0.put (some 79) (.slice (some ⟨X, 0, none⟩) 0 0)).put (some 82) (.slice (some ⟨g5, 0, none⟩) Lc.length c5)).put (some 83) (.slice (some ⟨E, 0, none⟩) 1 1)).put (some 84) (.slice (some ⟨T, 0, none⟩) 1 1)).put (some 85) (.slice (some ⟨g8, 0, none⟩) (Lc.length + 1) c8)).put (some 7) (.pointer (some ⟨D, 0, none⟩))).put (some 86) (.agg #[.int .i64 (m : Int), .slice (some ⟨g8, 0, none⟩) (Lc.length + 1) c8])) v := by
              intro X g5 c5 E T g8 c8 D v hbw p0 p1 hE zE yE hF zF yF hD0 hD1 hDf0 hDf1 zD yD nEF nED nFD
              rw [unhide hGo, unhide ha0]
              try simp only [List.getElem_toArray, List.getElem_cons_succ, List.getElem_cons_zero, Act.put, List.setIfInBounds_toArray, List.set_cons_zero, List.set_cons_succ]
              have hHeld : v.cell? ⟨w1.heap.size, 0, none⟩ = some (.int .i64 (m : Int)) ∧ v.cell? ⟨w1.heap.size, 1, none⟩ = some (.slice a Lc.length cp) := ⟨p0, p1⟩
              refine wpAnyH_ready (rs := [11]) (by kernel_rfl) (by simp) ?_
              refine AllReadyH.cons rfl (fun K hK => ?_) AllReadyH.nil
              go_simp
              refine hK.out _ _ ?_ (fun hHeld => ?_)
              · exact ⟨by rw [World.cell?_setCell_other _ _ _ _ (by simp <;> omega), World.cell?_setCell_other _ _ _ _ (by simp <;> omega)]; exact p0, by rw [World.cell?_setCell_other _ _ _ _ (by simp <;> omega), World.cell?_setCell_other _ _ _ _ (by simp <;> omega)]; exact p1⟩
              clear hK K
              try simp only [List.getElem_toArray, List.getElem_cons_succ, List.getElem_cons_zero, Act.put, List.setIfInBounds_toArray, List.set_cons_zero, List.set_cons_succ]
              refine wpAnyH_done (by kernel_rfl) ?_ _
              have CF : ClzAt v 0 (.slice (some ⟨g8, 0, none⟩) (Lc.length + 1) c8) (Lc ++ [(⟨E, 1, [0]⟩ : Clz)]) := own_clz (unhide hF) (by omega) (fun q hq => by
                rcases List.mem_append.1 hq with h | h
                · exact ((unhide HC0).1 q h).later (unhide hbw)
                · simp at h; subst h; exact unhide hE)
              have CG : ∀ q, q ∈ Lc ++ [(⟨E, 1, [0]⟩ : Clz)] → q.g ≠ D := fun q hq => by
                rcases List.mem_append.1 hq with h | h
                · have := ((unhide HC0).1 q h).2.1; omega
                · simp at h; subst h; exact nED
              go_wp2_with fail
              go_meet
              exact ⟨D, g8, c8, E, rfl, by rw [World.cell?_setCell_other _ _ _ _ (by simp)]; exact World.cell?_setCell_same _ _ _ hD0, World.cell?_setCell_same _ _ _ (by rw [World.cell?_setCell_other _ _ _ _ (by simp)]; exact hD1), (CF.set CG (by simp [Value.ownBlock]; omega)).set CG (by simp [Value.ownBlock]; omega), (((unhide hbw).setCell yD _).setCell yD _)⟩
            have N_2_5_6_7_8 : ∀ (X g5 c5 E T g8 c8 : Nat) (v : World) (hbw : Hid (Below wB.heap.size wB v)) (p0 : v.cell? ⟨w1.heap.size, 0, none⟩ = some (.int .i64 (m : Int))) (p1 : v.cell? ⟨w1.heap.size, 1, none⟩ = some (.slice a Lc.length cp)) (hE : Hid (Clz.Ok (⟨E, 1, [0]⟩ : Clz) v 0)) (zE : E < v.heap.size) (yE : wB.heap.size ≤ E) (hF : Hid (v.ownsRow wB.heap.size 30 1 (.slice (some ⟨g8, 0, none⟩) (Lc.length + 1) c8) (Lc.length + 1) (scells (Lc ++ [(⟨E, 1, [0]⟩ : Clz)])))) (zF : g8 < v.heap.size) (yF : wB.heap.size ≤ g8) (nEF : E ≠ g8), Go 2 #[true, true, true, true, true, true, true, true, true, true, false, false] ((((((a0.put (some 79) (.slice (some ⟨X, 0, none⟩) 0 0)).put (some 82) (.slice (some ⟨g5, 0, none⟩) Lc.length c5)).put (some 83) (.slice (some ⟨E, 0, none⟩) 1 1)).put (some 84) (.slice (some ⟨T, 0, none⟩) 1 1)).put (some 85) (.slice (some ⟨g8, 0, none⟩) (Lc.length + 1) c8)).put (some 86) (.agg #[.int .i64 (m : Int), .slice (some ⟨g8, 0, none⟩) (Lc.length + 1) c8])) v := by
              intro X g5 c5 E T g8 c8 v hbw p0 p1 hE zE yE hF zF yF nEF
              rw [unhide hGo, unhide ha0]
              try simp only [List.getElem_toArray, List.getElem_cons_succ, List.getElem_cons_zero, Act.put, List.setIfInBounds_toArray, List.set_cons_zero, List.set_cons_succ]
              have hHeld : v.cell? ⟨w1.heap.size, 0, none⟩ = some (.int .i64 (m : Int)) ∧ v.cell? ⟨w1.heap.size, 1, none⟩ = some (.slice a Lc.length cp) := ⟨p0, p1⟩
              refine wpAnyH_ready (rs := [10]) (by kernel_rfl) (by simp) ?_
              refine AllReadyH.cons rfl (fun K hK => ?_) AllReadyH.nil
              go_simp
              obtain ⟨u, hu⟩ : ∃ z, z = v.alloc (.cells #[.int .i64 0, .slice none 0 0] 25) := ⟨_, rfl⟩
              have b : Below v.heap.size v u := by rw [hu]; exact (Below.refl _ _).alloc (Nat.le_refl _) _
              have eu : v.heap.size < u.heap.size := by rw [hu]; simp
              have fu : wB.heap.size ≤ v.heap.size := (unhide hbw).size
              have hE := hide ((unhide hE).later b)
              have zE : E < u.heap.size := Nat.lt_of_lt_of_le zE b.size
              have hF := hide (World.ownsRow.kept (w' := u) (unhide hF) (grown_below b) (by simp [Value.ownBlock]))
              have zF : g8 < u.heap.size := Nat.lt_of_lt_of_le zF b.size
              have hbw := hide ((unhide hbw).trans (b.mono (unhide hbw).size))
              have p0 := cell_later b p0
              have p1 := cell_later b p1
              have hD0 : u.cell? ⟨v.heap.size, 0, none⟩ = some (.int .i64 0) := by rw [hu]; simp [go_sem]
              have hD1 : u.cell? ⟨v.heap.size, 1, none⟩ = some (.slice none 0 0) := by rw [hu]; simp [go_sem]
              have hDf0 : u.frozen? ⟨v.heap.size, 0, none⟩ = false := by rw [hu]; simp [go_sem]
              have hDf1 : u.frozen? ⟨v.heap.size, 1, none⟩ = false := by rw [hu]; simp [go_sem]
              have nED : E ≠ v.heap.size := by omega
              have nFD : g8 ≠ v.heap.size := by omega
              rw [← hu]
              obtain ⟨D, hDe⟩ : ∃ z, z = v.heap.size := ⟨_, rfl⟩
              rw [← hDe] at hD0 hD1 hDf0 hDf1 nED nFD ⊢
              have zD : D < u.heap.size := by omega
              have yD : wB.heap.size ≤ D := by omega
              clear hu b eu fu hDe
              refine hK.out _ _ ?_ (fun hHeld => ?_)
              · exact ⟨p0, p1⟩
              clear hK K
              try simp only [List.getElem_toArray, List.getElem_cons_succ, List.getElem_cons_zero, Act.put, List.setIfInBounds_toArray, List.set_cons_zero, List.set_cons_succ]
              rw [← unhide hGo]
              exact goTo (N_2_5_6_7_8_10 X g5 c5 E T g8 c8 D u hbw p0 p1 hE zE yE hF zF yF hD0 hD1 hDf0 hDf1 zD yD nEF nED nFD) (by kernel_rfl) (by kernel_rfl) (by rw [unhide ha0]; kernel_rfl)
            have N_2_5_6_7_10 : ∀ (X g5 c5 E T D : Nat) (v : World) (hbw : Hid (Below wB.heap.size wB v)) (p0 : v.cell? ⟨w1.heap.size, 0, none⟩ = some (.int .i64 (m : Int))) (p1 : v.cell? ⟨w1.heap.size, 1, none⟩ = some (.slice a Lc.length cp)) (hO : Hid (v.ownsRow wB.heap.size 30 1 (.slice (some ⟨g5, 0, none⟩) Lc.length c5) Lc.length (scells Lc))) (zO : g5 < v.heap.size) (yO : wB.heap.size ≤ g5) (hE : Hid (Clz.Ok (⟨E, 1, [0]⟩ : Clz) v 0)) (zE : E < v.heap.size) (yE : wB.heap.size ≤ E) (hT : v.cell? ⟨T, 0, none⟩ = some (.slice (some ⟨E, 0, none⟩) 1 1)) (zT : T < v.heap.size) (yT : wB.heap.size ≤ T) (hD0 : v.cell? ⟨D, 0, none⟩ = some (.int .i64 0)) (hD1 : v.cell? ⟨D, 1, none⟩ = some (.slice none 0 0)) (hDf0 : v.frozen? ⟨D, 0, none⟩ = false) (hDf1 : v.frozen? ⟨D, 1, none⟩ = false) (zD : D < v.heap.size) (yD : wB.heap.size ≤ D) (nOE : g5 ≠ E) (nOT : g5 ≠ T) (nOD : g5 ≠ D) (nET : E ≠ T) (nED : E ≠ D) (nTD : T ≠ D), Go 3 #[true, true, true, true, true, true, true, true, false, false, true, false] (((((a0.put (some 79) (.slice (some ⟨X, 0, none⟩) 0 0)).put (some 82) (.slice (some ⟨g5, 0, none⟩) Lc.length c5)).put (some 83) (.slice (some ⟨E, 0, none⟩) 1 1)).put (some 84) (.slice (some ⟨T, 0, none⟩) 1 1)).put (some 7) (.pointer (some ⟨D, 0, none⟩))) v := by
              intro X g5 c5 E T D v hbw p0 p1 hO zO yO hE zE yE hT zT yT hD0 hD1 hDf0 hDf1 zD yD nOE nOT nOD nET nED nTD
              rw [unhide hGo, unhide ha0]
              try simp only [List.getElem_toArray, List.getElem_cons_succ, List.getElem_cons_zero, Act.put, List.setIfInBounds_toArray, List.set_cons_zero, List.set_cons_succ]
              have hHeld : v.cell? ⟨w1.heap.size, 0, none⟩ = some (.int .i64 (m : Int)) ∧ v.cell? ⟨w1.heap.size, 1, none⟩ = some (.slice a Lc.length cp) := ⟨p0, p1⟩
              refine wpAnyH_ready (rs := [8]) (by kernel_rfl) (by simp) ?_
              refine AllReadyH.cons rfl (fun K hK => ?_) AllReadyH.nil
              apply step_clz_one (Ls := Lc) (q := (⟨E, 1, [0]⟩ : Clz)) (base := wB.heap.size)
              case hgd => rfl
              case ho => rfl
              case hty => rfl
              case hs => rfl
              case hown => exact unhide hO
              case hbase => exact (unhide hbw).size
              case hx => rfl
              case hT => exact hT
              case hl => omega
              case' h => intro g8 c8 u o8 gr8 at8 lt8
              have mv8 : Mov g5 _ u := mov_of_grown gr8
              have hE := hide ((unhide hE).grown (grown_mov mv8) (by simp only [ne_eq, Option.some.injEq]; omega))
              have zE : E < u.heap.size := Nat.lt_of_lt_of_le zE mv8.size
              have hD0 := mv8.cell hD0 (by simp only; omega)
              have hD1 := mv8.cell hD1 (by simp only; omega)
              have hDf0 := (World.frozen?_of_block (w := v) (a := ⟨D, 0, none⟩) (mv8.2.2.2.2 D zD (by omega))).trans hDf0
              have hDf1 := (World.frozen?_of_block (w := v) (a := ⟨D, 1, none⟩) (mv8.2.2.2.2 D zD (by omega))).trans hDf1
              have zD : D < u.heap.size := Nat.lt_of_lt_of_le zD mv8.size
              have p0 := mv8.cell p0 (by simp only; omega)
              have p1 := mv8.cell p1 (by simp only; omega)
              have hbw := hide ((unhide hbw).trans (mv8.below yO (unhide hbw).size))
              have hF := hide o8
              have zF := lt8
              have yF : wB.heap.size ≤ g8 := own_base o8
              have nEF : E ≠ g8 := by rcases at8 with e | e <;> omega
              have nFD : g8 ≠ D := by rcases at8 with e | e <;> omega
              clear o8 gr8 at8 lt8 mv8
              refine hK.out _ _ ?_ (fun hHeld => ?_)
              · exact ⟨p0, p1⟩
              clear hK K
              try simp only [List.getElem_toArray, List.getElem_cons_succ, List.getElem_cons_zero, Act.put, List.setIfInBounds_toArray, List.set_cons_zero, List.set_cons_succ]
              refine wpAnyH_take (i := 9) (v := ?_) rfl (by kernel_rfl) (by kernel_rfl) (by kernel_rfl) (fun _ _ _ h => h) (Or.inl ⟨by rfl, ?_⟩) (by assumption) ?_
              rotate_left
              · (intro w hSw; (try dsimp only at hSw); first | (go_simp; done) | (go_simp; with_reducible rfl))
              try simp only [List.getElem_toArray, List.getElem_cons_succ, List.getElem_cons_zero, Act.put, List.setIfInBounds_toArray, List.set_cons_zero, List.set_cons_succ]
              rw [← unhide hGo]
              exact goTo (N_2_5_6_7_8_10 X g5 c5 E T g8 c8 D u hbw p0 p1 hE zE yE hF zF yF hD0 hD1 hDf0 hDf1 zD yD nEF nED nFD) (by kernel_rfl) (by kernel_rfl) (by rw [unhide ha0]; kernel_rfl)
            have N_2_5_6_7 : ∀ (X g5 c5 E T : Nat) (v : World) (hbw : Hid (Below wB.heap.size wB v)) (p0 : v.cell? ⟨w1.heap.size, 0, none⟩ = some (.int .i64 (m : Int))) (p1 : v.cell? ⟨w1.heap.size, 1, none⟩ = some (.slice a Lc.length cp)) (hO : Hid (v.ownsRow wB.heap.size 30 1 (.slice (some ⟨g5, 0, none⟩) Lc.length c5) Lc.length (scells Lc))) (zO : g5 < v.heap.size) (yO : wB.heap.size ≤ g5) (hE : Hid (Clz.Ok (⟨E, 1, [0]⟩ : Clz) v 0)) (zE : E < v.heap.size) (yE : wB.heap.size ≤ E) (hT : v.cell? ⟨T, 0, none⟩ = some (.slice (some ⟨E, 0, none⟩) 1 1)) (zT : T < v.heap.size) (yT : wB.heap.size ≤ T) (nOE : g5 ≠ E) (nOT : g5 ≠ T) (nET : E ≠ T), Go 4 #[true, true, true, true, true, true, true, true, false, false, false, false] ((((a0.put (some 79) (.slice (some ⟨X, 0, none⟩) 0 0)).put (some 82) (.slice (some ⟨g5, 0, none⟩) Lc.length c5)).put (some 83) (.slice (some ⟨E, 0, none⟩) 1 1)).put (some 84) (.slice (some ⟨T, 0, none⟩) 1 1)) v := by
              intro X g5 c5 E T v hbw p0 p1 hO zO yO hE zE yE hT zT yT nOE nOT nET
              rw [unhide hGo, unhide ha0]
              try simp only [List.getElem_toArray, List.getElem_cons_succ, List.getElem_cons_zero, Act.put, List.setIfInBounds_toArray, List.set_cons_zero, List.set_cons_succ]
              have hHeld : v.cell? ⟨w1.heap.size, 0, none⟩ = some (.int .i64 (m : Int)) ∧ v.cell? ⟨w1.heap.size, 1, none⟩ = some (.slice a Lc.length cp) := ⟨p0, p1⟩
              refine wpAnyH_ready (rs := [8, 10]) (by kernel_rfl) (by simp) ?_
              refine AllReadyH.cons rfl (fun K hK => ?_) (AllReadyH.cons rfl (fun K hK => ?_) AllReadyH.nil)
              · apply step_clz_one (Ls := Lc) (q := (⟨E, 1, [0]⟩ : Clz)) (base := wB.heap.size)
                case hgd => rfl
                case ho => rfl
                case hty => rfl
                case hs => rfl
                case hown => exact unhide hO
                case hbase => exact (unhide hbw).size
                case hx => rfl
                case hT => exact hT
                case hl => omega
                case' h => intro g8 c8 u o8 gr8 at8 lt8
                have mv8 : Mov g5 _ u := mov_of_grown gr8
                have hE := hide ((unhide hE).grown (grown_mov mv8) (by simp only [ne_eq, Option.some.injEq]; omega))
                have zE : E < u.heap.size := Nat.lt_of_lt_of_le zE mv8.size
                have p0 := mv8.cell p0 (by simp only; omega)
                have p1 := mv8.cell p1 (by simp only; omega)
                have hbw := hide ((unhide hbw).trans (mv8.below yO (unhide hbw).size))
                have hF := hide o8
                have zF := lt8
                have yF : wB.heap.size ≤ g8 := own_base o8
                have nEF : E ≠ g8 := by rcases at8 with e | e <;> omega
                clear o8 gr8 at8 lt8 mv8
                refine hK.out _ _ ?_ (fun hHeld => ?_)
                · exact ⟨p0, p1⟩
                clear hK K
                try simp only [List.getElem_toArray, List.getElem_cons_succ, List.getElem_cons_zero, Act.put, List.setIfInBounds_toArray, List.set_cons_zero, List.set_cons_succ]
                refine wpAnyH_take (i := 9) (v := ?_) rfl (by kernel_rfl) (by kernel_rfl) (by kernel_rfl) (fun _ _ _ h => h) (Or.inl ⟨by rfl, ?_⟩) (by assumption) ?_
                rotate_left
                · (intro w hSw; (try dsimp only at hSw); first | (go_simp; done) | (go_simp; with_reducible rfl))
                try simp only [List.getElem_toArray, List.getElem_cons_succ, List.getElem_cons_zero, Act.put, List.setIfInBounds_toArray, List.set_cons_zero, List.set_cons_succ]
                rw [← unhide hGo]
                exact goTo (N_2_5_6_7_8 X g5 c5 E T g8 c8 u hbw p0 p1 hE zE yE hF zF yF nEF) (by kernel_rfl) (by kernel_rfl) (by rw [unhide ha0]; kernel_rfl)
              · go_simp
                obtain ⟨u, hu⟩ : ∃ z, z = v.alloc (.cells #[.int .i64 0, .slice none 0 0] 25) := ⟨_, rfl⟩
                have b : Below v.heap.size v u := by rw [hu]; exact (Below.refl _ _).alloc (Nat.le_refl _) _
                have eu : v.heap.size < u.heap.size := by rw [hu]; simp
                have fu : wB.heap.size ≤ v.heap.size := (unhide hbw).size
                have hO := hide (World.ownsRow.kept (w' := u) (unhide hO) (grown_below b) (by simp [Value.ownBlock]))
                have zO : g5 < u.heap.size := Nat.lt_of_lt_of_le zO b.size
                have hE := hide ((unhide hE).later b)
                have zE : E < u.heap.size := Nat.lt_of_lt_of_le zE b.size
                have hT := cell_later b hT
                have zT : T < u.heap.size := Nat.lt_of_lt_of_le zT b.size
                have hbw := hide ((unhide hbw).trans (b.mono (unhide hbw).size))
                have p0 := cell_later b p0
                have p1 := cell_later b p1
                have hD0 : u.cell? ⟨v.heap.size, 0, none⟩ = some (.int .i64 0) := by rw [hu]; simp [go_sem]
                have hD1 : u.cell? ⟨v.heap.size, 1, none⟩ = some (.slice none 0 0) := by rw [hu]; simp [go_sem]
                have hDf0 : u.frozen? ⟨v.heap.size, 0, none⟩ = false := by rw [hu]; simp [go_sem]
                have hDf1 : u.frozen? ⟨v.heap.size, 1, none⟩ = false := by rw [hu]; simp [go_sem]
                have nOD : g5 ≠ v.heap.size := by omega
                have nED : E ≠ v.heap.size := by omega
                have nTD : T ≠ v.heap.size := by omega
                rw [← hu]
                obtain ⟨D, hDe⟩ : ∃ z, z = v.heap.size := ⟨_, rfl⟩
                rw [← hDe] at hD0 hD1 hDf0 hDf1 nOD nED nTD ⊢
                have zD : D < u.heap.size := by omega
                have yD : wB.heap.size ≤ D := by omega
                clear hu b eu fu hDe
                refine hK.out _ _ ?_ (fun hHeld => ?_)
                · exact ⟨p0, p1⟩
                clear hK K
                try simp only [List.getElem_toArray, List.getElem_cons_succ, List.getElem_cons_zero, Act.put, List.setIfInBounds_toArray, List.set_cons_zero, List.set_cons_succ]
                rw [← unhide hGo]
                exact goTo (N_2_5_6_7_10 X g5 c5 E T D u hbw p0 p1 hO zO yO hE zE yE hT zT yT hD0 hD1 hDf0 hDf1 zD yD nOE nOT nOD nET nED nTD) (by kernel_rfl) (by kernel_rfl) (by rw [unhide ha0]; kernel_rfl)
            have N_2_5_6_10 : ∀ (X g5 c5 E D : Nat) (v : World) (hbw : Hid (Below wB.heap.size wB v)) (p0 : v.cell? ⟨w1.heap.size, 0, none⟩ = some (.int .i64 (m : Int))) (p1 : v.cell? ⟨w1.heap.size, 1, none⟩ = some (.slice a Lc.length cp)) (hO : Hid (v.ownsRow wB.heap.size 30 1 (.slice (some ⟨g5, 0, none⟩) Lc.length c5) Lc.length (scells Lc))) (zO : g5 < v.heap.size) (yO : wB.heap.size ≤ g5) (hE : Hid (Clz.Ok (⟨E, 1, [0]⟩ : Clz) v 0)) (zE : E < v.heap.size) (yE : wB.heap.size ≤ E) (hD0 : v.cell? ⟨D, 0, none⟩ = some (.int .i64 0)) (hD1 : v.cell? ⟨D, 1, none⟩ = some (.slice none 0 0)) (hDf0 : v.frozen? ⟨D, 0, none⟩ = false) (hDf1 : v.frozen? ⟨D, 1, none⟩ = false) (zD : D < v.heap.size) (yD : wB.heap.size ≤ D) (nOE : g5 ≠ E) (nOD : g5 ≠ D) (nED : E ≠ D), Go 4 #[true, true, true, true, true, true, true, false, false, false, true, false] ((((a0.put (some 79) (.slice (some ⟨X, 0, none⟩) 0 0)).put (some 82) (.slice (some ⟨g5, 0, none⟩) Lc.length c5)).put (some 83) (.slice (some ⟨E, 0, none⟩) 1 1)).put (some 7) (.pointer (some ⟨D, 0, none⟩))) v := by
              intro X g5 c5 E D v hbw p0 p1 hO zO yO hE zE yE hD0 hD1 hDf0 hDf1 zD yD nOE nOD nED
              rw [unhide hGo, unhide ha0]
              try simp only [List.getElem_toArray, List.getElem_cons_succ, List.getElem_cons_zero, Act.put, List.setIfInBounds_toArray, List.set_cons_zero, List.set_cons_succ]
              have hHeld : v.cell? ⟨w1.heap.size, 0, none⟩ = some (.int .i64 (m : Int)) ∧ v.cell? ⟨w1.heap.size, 1, none⟩ = some (.slice a Lc.length cp) := ⟨p0, p1⟩
              refine wpAnyH_ready (rs := [7]) (by kernel_rfl) (by simp) ?_
              refine AllReadyH.cons rfl (fun K hK => ?_) AllReadyH.nil
              go_simp
              obtain ⟨u, hu⟩ : ∃ z, z = v.alloc (.cells #[.slice (some ⟨E, 0, none⟩) 1 1] 30) := ⟨_, rfl⟩
              have b : Below v.heap.size v u := by rw [hu]; exact (Below.refl _ _).alloc (Nat.le_refl _) _
              have eu : v.heap.size < u.heap.size := by rw [hu]; simp
              have fu : wB.heap.size ≤ v.heap.size := (unhide hbw).size
              have hO := hide (World.ownsRow.kept (w' := u) (unhide hO) (grown_below b) (by simp [Value.ownBlock]))
              have zO : g5 < u.heap.size := Nat.lt_of_lt_of_le zO b.size
              have hE := hide ((unhide hE).later b)
              have zE : E < u.heap.size := Nat.lt_of_lt_of_le zE b.size
              have hD0 := cell_later b hD0
              have hD1 := cell_later b hD1
              have hDf0 := (b.frozen (p := ⟨D, 0, none⟩) zD).trans hDf0
              have hDf1 := (b.frozen (p := ⟨D, 1, none⟩) zD).trans hDf1
              have zD : D < u.heap.size := Nat.lt_of_lt_of_le zD b.size
              have hbw := hide ((unhide hbw).trans (b.mono (unhide hbw).size))
              have p0 := cell_later b p0
              have p1 := cell_later b p1
              have hT : u.cell? ⟨v.heap.size, 0, none⟩ = some (.slice (some ⟨E, 0, none⟩) 1 1) := by rw [hu]; simp [go_sem]
              have nOT : g5 ≠ v.heap.size := by omega
              have nET : E ≠ v.heap.size := by omega
              have nTD : v.heap.size ≠ D := by omega
              rw [← hu]
              obtain ⟨T, hTe⟩ : ∃ z, z = v.heap.size := ⟨_, rfl⟩
              rw [← hTe] at hT nOT nET nTD ⊢
              have zT : T < u.heap.size := by omega
              have yT : wB.heap.size ≤ T := by omega
              clear hu b eu fu hTe
              refine hK.out _ _ ?_ (fun hHeld => ?_)
              · exact ⟨p0, p1⟩
              clear hK K
              try simp only [List.getElem_toArray, List.getElem_cons_succ, List.getElem_cons_zero, Act.put, List.setIfInBounds_toArray, List.set_cons_zero, List.set_cons_succ]
              rw [← unhide hGo]
              exact goTo (N_2_5_6_7_10 X g5 c5 E T D u hbw p0 p1 hO zO yO hE zE yE hT zT yT hD0 hD1 hDf0 hDf1 zD yD nOE nOT nOD nET nED nTD) (by kernel_rfl) (by kernel_rfl) (by rw [unhide ha0]; kernel_rfl)
            have N_2_6_7_10 : ∀ (X E T D : Nat) (v : World) (hbw : Hid (Below wB.heap.size wB v)) (p0 : v.cell? ⟨w1.heap.size, 0, none⟩ = some (.int .i64 (m : Int))) (p1 : v.cell? ⟨w1.heap.size, 1, none⟩ = some (.slice a Lc.length cp)) (hX : Hid (v.heap[X]? = some (.cells #[] 30 (0, 0)))) (zX : X < v.heap.size) (yX : wB.heap.size ≤ X) (hE : Hid (Clz.Ok (⟨E, 1, [0]⟩ : Clz) v 0)) (zE : E < v.heap.size) (yE : wB.heap.size ≤ E) (hT : v.cell? ⟨T, 0, none⟩ = some (.slice (some ⟨E, 0, none⟩) 1 1)) (zT : T < v.heap.size) (yT : wB.heap.size ≤ T) (hD0 : v.cell? ⟨D, 0, none⟩ = some (.int .i64 0)) (hD1 : v.cell? ⟨D, 1, none⟩ = some (.slice none 0 0)) (hDf0 : v.frozen? ⟨D, 0, none⟩ = false) (hDf1 : v.frozen? ⟨D, 1, none⟩ = false) (zD : D < v.heap.size) (yD : wB.heap.size ≤ D) (nXE : X ≠ E) (nXT : X ≠ T) (nXD : X ≠ D) (nET : E ≠ T) (nED : E ≠ D) (nTD : T ≠ D), Go 4 #[true, true, true, true, true, false, true, true, false, false, true, false] ((((a0.put (some 79) (.slice (some ⟨X, 0, none⟩) 0 0)).put (some 83) (.slice (some ⟨E, 0, none⟩) 1 1)).put (some 84) (.slice (some ⟨T, 0, none⟩) 1 1)).put (some 7) (.pointer (some ⟨D, 0, none⟩))) v := by
              intro X E T D v hbw p0 p1 hX zX yX hE zE yE hT zT yT hD0 hD1 hDf0 hDf1 zD yD nXE nXT nXD nET nED nTD
              rw [unhide hGo, unhide ha0]
              try simp only [List.getElem_toArray, List.getElem_cons_succ, List.getElem_cons_zero, Act.put, List.setIfInBounds_toArray, List.set_cons_zero, List.set_cons_succ]
              have hHeld : v.cell? ⟨w1.heap.size, 0, none⟩ = some (.int .i64 (m : Int)) ∧ v.cell? ⟨w1.heap.size, 1, none⟩ = some (.slice a Lc.length cp) := ⟨p0, p1⟩
              refine wpAnyH_ready (rs := [5]) (by kernel_rfl) (by simp) ?_
              refine AllReadyH.cons rfl (fun K hK => ?_) AllReadyH.nil
              apply step_clz_copy (R := 0) (Ls := Lc) (base := wB.heap.size)
              case hgd => rfl
              case ho => rfl
              case hty => rfl
              case hs => rfl
              case hX => exact unhide hX
              case hbX => exact yX
              case hbase => exact (unhide hbw).size
              case hx => rfl
              case hc => exact (unhide HC0).later (unhide hbw)
              case hl => omega
              case' h => intro g5 c5 u o5 gr5 at5 lt5
              have mv5 : Mov X _ u := mov_of_grown gr5
              have hE := hide ((unhide hE).grown (grown_mov mv5) (by simp only [ne_eq, Option.some.injEq]; omega))
              have zE : E < u.heap.size := Nat.lt_of_lt_of_le zE mv5.size
              have hT := mv5.cell hT (by simp only; omega)
              have zT : T < u.heap.size := Nat.lt_of_lt_of_le zT mv5.size
              have hD0 := mv5.cell hD0 (by simp only; omega)
              have hD1 := mv5.cell hD1 (by simp only; omega)
              have hDf0 := (World.frozen?_of_block (w := v) (a := ⟨D, 0, none⟩) (mv5.2.2.2.2 D zD (by omega))).trans hDf0
              have hDf1 := (World.frozen?_of_block (w := v) (a := ⟨D, 1, none⟩) (mv5.2.2.2.2 D zD (by omega))).trans hDf1
              have zD : D < u.heap.size := Nat.lt_of_lt_of_le zD mv5.size
              have p0 := mv5.cell p0 (by simp only; omega)
              have p1 := mv5.cell p1 (by simp only; omega)
              have hbw := hide ((unhide hbw).trans (mv5.below yX (unhide hbw).size))
              have hO := hide o5
              have zO := lt5
              have yO : wB.heap.size ≤ g5 := own_base o5
              have nOE : g5 ≠ E := by rcases at5 with e | e <;> omega
              have nOT : g5 ≠ T := by rcases at5 with e | e <;> omega
              have nOD : g5 ≠ D := by rcases at5 with e | e <;> omega
              clear o5 gr5 at5 lt5 mv5
              refine hK.out _ _ ?_ (fun hHeld => ?_)
              · exact ⟨p0, p1⟩
              clear hK K
              try simp only [List.getElem_toArray, List.getElem_cons_succ, List.getElem_cons_zero, Act.put, List.setIfInBounds_toArray, List.set_cons_zero, List.set_cons_succ]
              rw [← unhide hGo]
              exact goTo (N_2_5_6_7_10 X g5 c5 E T D u hbw p0 p1 hO zO yO hE zE yE hT zT yT hD0 hD1 hDf0 hDf1 zD yD nOE nOT nOD nET nED nTD) (by kernel_rfl) (by kernel_rfl) (by rw [unhide ha0]; kernel_rfl)
            have N_2_5_6 : ∀ (X g5 c5 E : Nat) (v : World) (hbw : Hid (Below wB.heap.size wB v)) (p0 : v.cell? ⟨w1.heap.size, 0, none⟩ = some (.int .i64 (m : Int))) (p1 : v.cell? ⟨w1.heap.size, 1, none⟩ = some (.slice a Lc.length cp)) (hO : Hid (v.ownsRow wB.heap.size 30 1 (.slice (some ⟨g5, 0, none⟩) Lc.length c5) Lc.length (scells Lc))) (zO : g5 < v.heap.size) (yO : wB.heap.size ≤ g5) (hE : Hid (Clz.Ok (⟨E, 1, [0]⟩ : Clz) v 0)) (zE : E < v.heap.size) (yE : wB.heap.size ≤ E) (nOE : g5 ≠ E), Go 5 #[true, true, true, true, true, true, true, false, false, false, false, false] (((a0.put (some 79) (.slice (some ⟨X, 0, none⟩) 0 0)).put (some 82) (.slice (some ⟨g5, 0, none⟩) Lc.length c5)).put (some 83) (.slice (some ⟨E, 0, none⟩) 1 1)) v := by
              intro X g5 c5 E v hbw p0 p1 hO zO yO hE zE yE nOE
              rw [unhide hGo, unhide ha0]
              try simp only [List.getElem_toArray, List.getElem_cons_succ, List.getElem_cons_zero, Act.put, List.setIfInBounds_toArray, List.set_cons_zero, List.set_cons_succ]
              have hHeld : v.cell? ⟨w1.heap.size, 0, none⟩ = some (.int .i64 (m : Int)) ∧ v.cell? ⟨w1.heap.size, 1, none⟩ = some (.slice a Lc.length cp) := ⟨p0, p1⟩
              refine wpAnyH_ready (rs := [7, 10]) (by kernel_rfl) (by simp) ?_
              refine AllReadyH.cons rfl (fun K hK => ?_) (AllReadyH.cons rfl (fun K hK => ?_) AllReadyH.nil)
              · go_simp
                obtain ⟨u, hu⟩ : ∃ z, z = v.alloc (.cells #[.slice (some ⟨E, 0, none⟩) 1 1] 30) := ⟨_, rfl⟩
                have b : Below v.heap.size v u := by rw [hu]; exact (Below.refl _ _).alloc (Nat.le_refl _) _
                have eu : v.heap.size < u.heap.size := by rw [hu]; simp
                have fu : wB.heap.size ≤ v.heap.size := (unhide hbw).size
                have hO := hide (World.ownsRow.kept (w' := u) (unhide hO) (grown_below b) (by simp [Value.ownBlock]))
                have zO : g5 < u.heap.size := Nat.lt_of_lt_of_le zO b.size
                have hE := hide ((unhide hE).later b)
                have zE : E < u.heap.size := Nat.lt_of_lt_of_le zE b.size
                have hbw := hide ((unhide hbw).trans (b.mono (unhide hbw).size))
                have p0 := cell_later b p0
                have p1 := cell_later b p1
                have hT : u.cell? ⟨v.heap.size, 0, none⟩ = some (.slice (some ⟨E, 0, none⟩) 1 1) := by rw [hu]; simp [go_sem]
                have nOT : g5 ≠ v.heap.size := by omega
                have nET : E ≠ v.heap.size := by omega
                rw [← hu]
                obtain ⟨T, hTe⟩ : ∃ z, z = v.heap.size := ⟨_, rfl⟩
                rw [← hTe] at hT nOT nET ⊢
                have zT : T < u.heap.size := by omega
                have yT : wB.heap.size ≤ T := by omega
                clear hu b eu fu hTe
                refine hK.out _ _ ?_ (fun hHeld => ?_)
                · exact ⟨p0, p1⟩
                clear hK K
                try simp only [List.getElem_toArray, List.getElem_cons_succ, List.getElem_cons_zero, Act.put, List.setIfInBounds_toArray, List.set_cons_zero, List.set_cons_succ]
                rw [← unhide hGo]
                exact goTo (N_2_5_6_7 X g5 c5 E T u hbw p0 p1 hO zO yO hE zE yE hT zT yT nOE nOT nET) (by kernel_rfl) (by kernel_rfl) (by rw [unhide ha0]; kernel_rfl)
              · go_simp
                obtain ⟨u, hu⟩ : ∃ z, z = v.alloc (.cells #[.int .i64 0, .slice none 0 0] 25) := ⟨_, rfl⟩
                have b : Below v.heap.size v u := by rw [hu]; exact (Below.refl _ _).alloc (Nat.le_refl _) _
                have eu : v.heap.size < u.heap.size := by rw [hu]; simp
                have fu : wB.heap.size ≤ v.heap.size := (unhide hbw).size
                have hO := hide (World.ownsRow.kept (w' := u) (unhide hO) (grown_below b) (by simp [Value.ownBlock]))
                have zO : g5 < u.heap.size := Nat.lt_of_lt_of_le zO b.size
                have hE := hide ((unhide hE).later b)
                have zE : E < u.heap.size := Nat.lt_of_lt_of_le zE b.size
                have hbw := hide ((unhide hbw).trans (b.mono (unhide hbw).size))
                have p0 := cell_later b p0
                have p1 := cell_later b p1
                have hD0 : u.cell? ⟨v.heap.size, 0, none⟩ = some (.int .i64 0) := by rw [hu]; simp [go_sem]
                have hD1 : u.cell? ⟨v.heap.size, 1, none⟩ = some (.slice none 0 0) := by rw [hu]; simp [go_sem]
                have hDf0 : u.frozen? ⟨v.heap.size, 0, none⟩ = false := by rw [hu]; simp [go_sem]
                have hDf1 : u.frozen? ⟨v.heap.size, 1, none⟩ = false := by rw [hu]; simp [go_sem]
                have nOD : g5 ≠ v.heap.size := by omega
                have nED : E ≠ v.heap.size := by omega
                rw [← hu]
                obtain ⟨D, hDe⟩ : ∃ z, z = v.heap.size := ⟨_, rfl⟩
                rw [← hDe] at hD0 hD1 hDf0 hDf1 nOD nED ⊢
                have zD : D < u.heap.size := by omega
                have yD : wB.heap.size ≤ D := by omega
                clear hu b eu fu hDe
                refine hK.out _ _ ?_ (fun hHeld => ?_)
                · exact ⟨p0, p1⟩
                clear hK K
                try simp only [List.getElem_toArray, List.getElem_cons_succ, List.getElem_cons_zero, Act.put, List.setIfInBounds_toArray, List.set_cons_zero, List.set_cons_succ]
                rw [← unhide hGo]
                exact goTo (N_2_5_6_10 X g5 c5 E D u hbw p0 p1 hO zO yO hE zE yE hD0 hD1 hDf0 hDf1 zD yD nOE nOD nED) (by kernel_rfl) (by kernel_rfl) (by rw [unhide ha0]; kernel_rfl)
            have N_2_5_10 : ∀ (X g5 c5 D : Nat) (v : World) (hbw : Hid (Below wB.heap.size wB v)) (p0 : v.cell? ⟨w1.heap.size, 0, none⟩ = some (.int .i64 (m : Int))) (p1 : v.cell? ⟨w1.heap.size, 1, none⟩ = some (.slice a Lc.length cp)) (hO : Hid (v.ownsRow wB.heap.size 30 1 (.slice (some ⟨g5, 0, none⟩) Lc.length c5) Lc.length (scells Lc))) (zO : g5 < v.heap.size) (yO : wB.heap.size ≤ g5) (hD0 : v.cell? ⟨D, 0, none⟩ = some (.int .i64 0)) (hD1 : v.cell? ⟨D, 1, none⟩ = some (.slice none 0 0)) (hDf0 : v.frozen? ⟨D, 0, none⟩ = false) (hDf1 : v.frozen? ⟨D, 1, none⟩ = false) (zD : D < v.heap.size) (yD : wB.heap.size ≤ D) (nOD : g5 ≠ D), Go 5 #[true, true, true, true, true, true, false, false, false, false, true, false] (((a0.put (some 79) (.slice (some ⟨X, 0, none⟩) 0 0)).put (some 82) (.slice (some ⟨g5, 0, none⟩) Lc.length c5)).put (some 7) (.pointer (some ⟨D, 0, none⟩))) v := by
              intro X g5 c5 D v hbw p0 p1 hO zO yO hD0 hD1 hDf0 hDf1 zD yD nOD
              rw [unhide hGo, unhide ha0]
              try simp only [List.getElem_toArray, List.getElem_cons_succ, List.getElem_cons_zero, Act.put, List.setIfInBounds_toArray, List.set_cons_zero, List.set_cons_succ]
              have hHeld : v.cell? ⟨w1.heap.size, 0, none⟩ = some (.int .i64 (m : Int)) ∧ v.cell? ⟨w1.heap.size, 1, none⟩ = some (.slice a Lc.length cp) := ⟨p0, p1⟩
              refine wpAnyH_ready (rs := [6]) (by kernel_rfl) (by simp) ?_
              refine AllReadyH.cons rfl (fun K hK => ?_) AllReadyH.nil
              go_simp
              obtain ⟨u, hu⟩ : ∃ z, z = v.alloc (.cells #[.int .i64 0] 3) := ⟨_, rfl⟩
              have b : Below v.heap.size v u := by rw [hu]; exact (Below.refl _ _).alloc (Nat.le_refl _) _
              have eu : v.heap.size < u.heap.size := by rw [hu]; simp
              have fu : wB.heap.size ≤ v.heap.size := (unhide hbw).size
              have hO := hide (World.ownsRow.kept (w' := u) (unhide hO) (grown_below b) (by simp [Value.ownBlock]))
              have zO : g5 < u.heap.size := Nat.lt_of_lt_of_le zO b.size
              have hD0 := cell_later b hD0
              have hD1 := cell_later b hD1
              have hDf0 := (b.frozen (p := ⟨D, 0, none⟩) zD).trans hDf0
              have hDf1 := (b.frozen (p := ⟨D, 1, none⟩) zD).trans hDf1
              have zD : D < u.heap.size := Nat.lt_of_lt_of_le zD b.size
              have hbw := hide ((unhide hbw).trans (b.mono (unhide hbw).size))
              have p0 := cell_later b p0
              have p1 := cell_later b p1
              have hE : Hid (Clz.Ok (⟨v.heap.size, 1, [0]⟩ : Clz) u 0) := by show Clz.Ok _ _ _; rw [hu]; exact clz_lit v 0 #[.int .i64 0] [0] rfl (by omega) (by simp) (unhide hLit)
              have nOE : g5 ≠ v.heap.size := by omega
              have nED : v.heap.size ≠ D := by omega
              rw [← hu]
              obtain ⟨E, hEe⟩ : ∃ z, z = v.heap.size := ⟨_, rfl⟩
              rw [← hEe] at hE nOE nED ⊢
              have zE : E < u.heap.size := by omega
              have yE : wB.heap.size ≤ E := by omega
              clear hu b eu fu hEe
              refine hK.out _ _ ?_ (fun hHeld => ?_)
              · exact ⟨p0, p1⟩
              clear hK K
              try simp only [List.getElem_toArray, List.getElem_cons_succ, List.getElem_cons_zero, Act.put, List.setIfInBounds_toArray, List.set_cons_zero, List.set_cons_succ]
              rw [← unhide hGo]
              exact goTo (N_2_5_6_10 X g5 c5 E D u hbw p0 p1 hO zO yO hE zE yE hD0 hD1 hDf0 hDf1 zD yD nOE nOD nED) (by kernel_rfl) (by kernel_rfl) (by rw [unhide ha0]; kernel_rfl)
            have N_2_6_7 : ∀ (X E T : Nat) (v : World) (hbw : Hid (Below wB.heap.size wB v)) (p0 : v.cell? ⟨w1.heap.size, 0, none⟩ = some (.int .i64 (m : Int))) (p1 : v.cell? ⟨w1.heap.size, 1, none⟩ = some (.slice a Lc.length cp)) (hX : Hid (v.heap[X]? = some (.cells #[] 30 (0, 0)))) (zX : X < v.heap.size) (yX : wB.heap.size ≤ X) (hE : Hid (Clz.Ok (⟨E, 1, [0]⟩ : Clz) v 0)) (zE : E < v.heap.size) (yE : wB.heap.size ≤ E) (hT : v.cell? ⟨T, 0, none⟩ = some (.slice (some ⟨E, 0, none⟩) 1 1)) (zT : T < v.heap.size) (yT : wB.heap.size ≤ T) (nXE : X ≠ E) (nXT : X ≠ T) (nET : E ≠ T), Go 5 #[true, true, true, true, true, false, true, true, false, false, false, false] (((a0.put (some 79) (.slice (some ⟨X, 0, none⟩) 0 0)).put (some 83) (.slice (some ⟨E, 0, none⟩) 1 1)).put (some 84) (.slice (some ⟨T, 0, none⟩) 1 1)) v := by
              intro X E T v hbw p0 p1 hX zX yX hE zE yE hT zT yT nXE nXT nET
              rw [unhide hGo, unhide ha0]
              try simp only [List.getElem_toArray, List.getElem_cons_succ, List.getElem_cons_zero, Act.put, List.setIfInBounds_toArray, List.set_cons_zero, List.set_cons_succ]
              have hHeld : v.cell? ⟨w1.heap.size, 0, none⟩ = some (.int .i64 (m : Int)) ∧ v.cell? ⟨w1.heap.size, 1, none⟩ = some (.slice a Lc.length cp) := ⟨p0, p1⟩
              refine wpAnyH_ready (rs := [5, 10]) (by kernel_rfl) (by simp) ?_
              refine AllReadyH.cons rfl (fun K hK => ?_) (AllReadyH.cons rfl (fun K hK => ?_) AllReadyH.nil)
              · apply step_clz_copy (R := 0) (Ls := Lc) (base := wB.heap.size)
                case hgd => rfl
                case ho => rfl
                case hty => rfl
                case hs => rfl
                case hX => exact unhide hX
                case hbX => exact yX
                case hbase => exact (unhide hbw).size
                case hx => rfl
                case hc => exact (unhide HC0).later (unhide hbw)
                case hl => omega
                case' h => intro g5 c5 u o5 gr5 at5 lt5
                have mv5 : Mov X _ u := mov_of_grown gr5
                have hE := hide ((unhide hE).grown (grown_mov mv5) (by simp only [ne_eq, Option.some.injEq]; omega))
                have zE : E < u.heap.size := Nat.lt_of_lt_of_le zE mv5.size
                have hT := mv5.cell hT (by simp only; omega)
                have zT : T < u.heap.size := Nat.lt_of_lt_of_le zT mv5.size
                have p0 := mv5.cell p0 (by simp only; omega)
                have p1 := mv5.cell p1 (by simp only; omega)
                have hbw := hide ((unhide hbw).trans (mv5.below yX (unhide hbw).size))
                have hO := hide o5
                have zO := lt5
                have yO : wB.heap.size ≤ g5 := own_base o5
                have nOE : g5 ≠ E := by rcases at5 with e | e <;> omega
                have nOT : g5 ≠ T := by rcases at5 with e | e <;> omega
                clear o5 gr5 at5 lt5 mv5
                refine hK.out _ _ ?_ (fun hHeld => ?_)
                · exact ⟨p0, p1⟩
                clear hK K
                try simp only [List.getElem_toArray, List.getElem_cons_succ, List.getElem_cons_zero, Act.put, List.setIfInBounds_toArray, List.set_cons_zero, List.set_cons_succ]
                rw [← unhide hGo]
                exact goTo (N_2_5_6_7 X g5 c5 E T u hbw p0 p1 hO zO yO hE zE yE hT zT yT nOE nOT nET) (by kernel_rfl) (by kernel_rfl) (by rw [unhide ha0]; kernel_rfl)
              · go_simp
                obtain ⟨u, hu⟩ : ∃ z, z = v.alloc (.cells #[.int .i64 0, .slice none 0 0] 25) := ⟨_, rfl⟩
                have b : Below v.heap.size v u := by rw [hu]; exact (Below.refl _ _).alloc (Nat.le_refl _) _
                have eu : v.heap.size < u.heap.size := by rw [hu]; simp
                have fu : wB.heap.size ≤ v.heap.size := (unhide hbw).size
                have hX : Hid (u.heap[X]? = some (.cells #[] 30 (0, 0))) := (b.block _ (by omega)).trans (unhide hX)
                have zX : X < u.heap.size := Nat.lt_of_lt_of_le zX b.size
                have hE := hide ((unhide hE).later b)
                have zE : E < u.heap.size := Nat.lt_of_lt_of_le zE b.size
                have hT := cell_later b hT
                have zT : T < u.heap.size := Nat.lt_of_lt_of_le zT b.size
                have hbw := hide ((unhide hbw).trans (b.mono (unhide hbw).size))
                have p0 := cell_later b p0
                have p1 := cell_later b p1
                have hD0 : u.cell? ⟨v.heap.size, 0, none⟩ = some (.int .i64 0) := by rw [hu]; simp [go_sem]
                have hD1 : u.cell? ⟨v.heap.size, 1, none⟩ = some (.slice none 0 0) := by rw [hu]; simp [go_sem]
                have hDf0 : u.frozen? ⟨v.heap.size, 0, none⟩ = false := by rw [hu]; simp [go_sem]
                have hDf1 : u.frozen? ⟨v.heap.size, 1, none⟩ = false := by rw [hu]; simp [go_sem]
                have nXD : X ≠ v.heap.size := by omega
                have nED : E ≠ v.heap.size := by omega
                have nTD : T ≠ v.heap.size := by omega
                rw [← hu]
                obtain ⟨D, hDe⟩ : ∃ z, z = v.heap.size := ⟨_, rfl⟩
                rw [← hDe] at hD0 hD1 hDf0 hDf1 nXD nED nTD ⊢
                have zD : D < u.heap.size := by omega
                have yD : wB.heap.size ≤ D := by omega
                clear hu b eu fu hDe
                refine hK.out _ _ ?_ (fun hHeld => ?_)
                · exact ⟨p0, p1⟩
                clear hK K
                try simp only [List.getElem_toArray, List.getElem_cons_succ, List.getElem_cons_zero, Act.put, List.setIfInBounds_toArray, List.set_cons_zero, List.set_cons_succ]
                rw [← unhide hGo]
                exact goTo (N_2_6_7_10 X E T D u hbw p0 p1 hX zX yX hE zE yE hT zT yT hD0 hD1 hDf0 hDf1 zD yD nXE nXT nXD nET nED nTD) (by kernel_rfl) (by kernel_rfl) (by rw [unhide ha0]; kernel_rfl)
            have N_2_6_10 : ∀ (X E D : Nat) (v : World) (hbw : Hid (Below wB.heap.size wB v)) (p0 : v.cell? ⟨w1.heap.size, 0, none⟩ = some (.int .i64 (m : Int))) (p1 : v.cell? ⟨w1.heap.size, 1, none⟩ = some (.slice a Lc.length cp)) (hX : Hid (v.heap[X]? = some (.cells #[] 30 (0, 0)))) (zX : X < v.heap.size) (yX : wB.heap.size ≤ X) (hE : Hid (Clz.Ok (⟨E, 1, [0]⟩ : Clz) v 0)) (zE : E < v.heap.size) (yE : wB.heap.size ≤ E) (hD0 : v.cell? ⟨D, 0, none⟩ = some (.int .i64 0)) (hD1 : v.cell? ⟨D, 1, none⟩ = some (.slice none 0 0)) (hDf0 : v.frozen? ⟨D, 0, none⟩ = false) (hDf1 : v.frozen? ⟨D, 1, none⟩ = false) (zD : D < v.heap.size) (yD : wB.heap.size ≤ D) (nXE : X ≠ E) (nXD : X ≠ D) (nED : E ≠ D), Go 5 #[true, true, true, true, true, false, true, false, false, false, true, false] (((a0.put (some 79) (.slice (some ⟨X, 0, none⟩) 0 0)).put (some 83) (.slice (some ⟨E, 0, none⟩) 1 1)).put (some 7) (.pointer (some ⟨D, 0, none⟩))) v := by
              intro X E D v hbw p0 p1 hX zX yX hE zE yE hD0 hD1 hDf0 hDf1 zD yD nXE nXD nED
              rw [unhide hGo, unhide ha0]
              try simp only [List.getElem_toArray, List.getElem_cons_succ, List.getElem_cons_zero, Act.put, List.setIfInBounds_toArray, List.set_cons_zero, List.set_cons_succ]
              have hHeld : v.cell? ⟨w1.heap.size, 0, none⟩ = some (.int .i64 (m : Int)) ∧ v.cell? ⟨w1.heap.size, 1, none⟩ = some (.slice a Lc.length cp) := ⟨p0, p1⟩
              refine wpAnyH_ready (rs := [5, 7]) (by kernel_rfl) (by simp) ?_
              refine AllReadyH.cons rfl (fun K hK => ?_) (AllReadyH.cons rfl (fun K hK => ?_) AllReadyH.nil)
              · apply step_clz_copy (R := 0) (Ls := Lc) (base := wB.heap.size)
                case hgd => rfl
                case ho => rfl
                case hty => rfl
                case hs => rfl
                case hX => exact unhide hX
                case hbX => exact yX
                case hbase => exact (unhide hbw).size
                case hx => rfl
                case hc => exact (unhide HC0).later (unhide hbw)
                case hl => omega
                case' h => intro g5 c5 u o5 gr5 at5 lt5
                have mv5 : Mov X _ u := mov_of_grown gr5
                have hE := hide ((unhide hE).grown (grown_mov mv5) (by simp only [ne_eq, Option.some.injEq]; omega))
                have zE : E < u.heap.size := Nat.lt_of_lt_of_le zE mv5.size
                have hD0 := mv5.cell hD0 (by simp only; omega)
                have hD1 := mv5.cell hD1 (by simp only; omega)
                have hDf0 := (World.frozen?_of_block (w := v) (a := ⟨D, 0, none⟩) (mv5.2.2.2.2 D zD (by omega))).trans hDf0
                have hDf1 := (World.frozen?_of_block (w := v) (a := ⟨D, 1, none⟩) (mv5.2.2.2.2 D zD (by omega))).trans hDf1
                have zD : D < u.heap.size := Nat.lt_of_lt_of_le zD mv5.size
                have p0 := mv5.cell p0 (by simp only; omega)
                have p1 := mv5.cell p1 (by simp only; omega)
                have hbw := hide ((unhide hbw).trans (mv5.below yX (unhide hbw).size))
                have hO := hide o5
                have zO := lt5
                have yO : wB.heap.size ≤ g5 := own_base o5
                have nOE : g5 ≠ E := by rcases at5 with e | e <;> omega
                have nOD : g5 ≠ D := by rcases at5 with e | e <;> omega
                clear o5 gr5 at5 lt5 mv5
                refine hK.out _ _ ?_ (fun hHeld => ?_)
                · exact ⟨p0, p1⟩
                clear hK K
                try simp only [List.getElem_toArray, List.getElem_cons_succ, List.getElem_cons_zero, Act.put, List.setIfInBounds_toArray, List.set_cons_zero, List.set_cons_succ]
                rw [← unhide hGo]
                exact goTo (N_2_5_6_10 X g5 c5 E D u hbw p0 p1 hO zO yO hE zE yE hD0 hD1 hDf0 hDf1 zD yD nOE nOD nED) (by kernel_rfl) (by kernel_rfl) (by rw [unhide ha0]; kernel_rfl)
              · go_simp
                obtain ⟨u, hu⟩ : ∃ z, z = v.alloc (.cells #[.slice (some ⟨E, 0, none⟩) 1 1] 30) := ⟨_, rfl⟩
                have b : Below v.heap.size v u := by rw [hu]; exact (Below.refl _ _).alloc (Nat.le_refl _) _
                have eu : v.heap.size < u.heap.size := by rw [hu]; simp
                have fu : wB.heap.size ≤ v.heap.size := (unhide hbw).size
                have hX : Hid (u.heap[X]? = some (.cells #[] 30 (0, 0))) := (b.block _ (by omega)).trans (unhide hX)
                have zX : X < u.heap.size := Nat.lt_of_lt_of_le zX b.size
                have hE := hide ((unhide hE).later b)
                have zE : E < u.heap.size := Nat.lt_of_lt_of_le zE b.size
                have hD0 := cell_later b hD0
                have hD1 := cell_later b hD1
                have hDf0 := (b.frozen (p := ⟨D, 0, none⟩) zD).trans hDf0
                have hDf1 := (b.frozen (p := ⟨D, 1, none⟩) zD).trans hDf1
                have zD : D < u.heap.size := Nat.lt_of_lt_of_le zD b.size
                have hbw := hide ((unhide hbw).trans (b.mono (unhide hbw).size))
                have p0 := cell_later b p0
                have p1 := cell_later b p1
                have hT : u.cell? ⟨v.heap.size, 0, none⟩ = some (.slice (some ⟨E, 0, none⟩) 1 1) := by rw [hu]; simp [go_sem]
                have nXT : X ≠ v.heap.size := by omega
                have nET : E ≠ v.heap.size := by omega
                have nTD : v.heap.size ≠ D := by omega
                rw [← hu]
                obtain ⟨T, hTe⟩ : ∃ z, z = v.heap.size := ⟨_, rfl⟩
                rw [← hTe] at hT nXT nET nTD ⊢
                have zT : T < u.heap.size := by omega
                have yT : wB.heap.size ≤ T := by omega
                clear hu b eu fu hTe
                refine hK.out _ _ ?_ (fun hHeld => ?_)
                · exact ⟨p0, p1⟩
                clear hK K
                try simp only [List.getElem_toArray, List.getElem_cons_succ, List.getElem_cons_zero, Act.put, List.setIfInBounds_toArray, List.set_cons_zero, List.set_cons_succ]
                rw [← unhide hGo]
                exact goTo (N_2_6_7_10 X E T D u hbw p0 p1 hX zX yX hE zE yE hT zT yT hD0 hD1 hDf0 hDf1 zD yD nXE nXT nXD nET nED nTD) (by kernel_rfl) (by kernel_rfl) (by rw [unhide ha0]; kernel_rfl)
            have N_6_7_10 : ∀ (E T D : Nat) (v : World) (hbw : Hid (Below wB.heap.size wB v)) (p0 : v.cell? ⟨w1.heap.size, 0, none⟩ = some (.int .i64 (m : Int))) (p1 : v.cell? ⟨w1.heap.size, 1, none⟩ = some (.slice a Lc.length cp)) (hE : Hid (Clz.Ok (⟨E, 1, [0]⟩ : Clz) v 0)) (zE : E < v.heap.size) (yE : wB.heap.size ≤ E) (hT : v.cell? ⟨T, 0, none⟩ = some (.slice (some ⟨E, 0, none⟩) 1 1)) (zT : T < v.heap.size) (yT : wB.heap.size ≤ T) (hD0 : v.cell? ⟨D, 0, none⟩ = some (.int .i64 0)) (hD1 : v.cell? ⟨D, 1, none⟩ = some (.slice none 0 0)) (hDf0 : v.frozen? ⟨D, 0, none⟩ = false) (hDf1 : v.frozen? ⟨D, 1, none⟩ = false) (zD : D < v.heap.size) (yD : wB.heap.size ≤ D) (nET : E ≠ T) (nED : E ≠ D) (nTD : T ≠ D), Go 5 #[true, true, false, true, true, false, true, true, false, false, true, false] (((a0.put (some 83) (.slice (some ⟨E, 0, none⟩) 1 1)).put (some 84) (.slice (some ⟨T, 0, none⟩) 1 1)).put (some 7) (.pointer (some ⟨D, 0, none⟩))) v := by
              intro E T D v hbw p0 p1 hE zE yE hT zT yT hD0 hD1 hDf0 hDf1 zD yD nET nED nTD
              rw [unhide hGo, unhide ha0]
              try simp only [List.getElem_toArray, List.getElem_cons_succ, List.getElem_cons_zero, Act.put, List.setIfInBounds_toArray, List.set_cons_zero, List.set_cons_succ]
              have hHeld : v.cell? ⟨w1.heap.size, 0, none⟩ = some (.int .i64 (m : Int)) ∧ v.cell? ⟨w1.heap.size, 1, none⟩ = some (.slice a Lc.length cp) := ⟨p0, p1⟩
              refine wpAnyH_ready (rs := [2]) (by kernel_rfl) (by simp) ?_
              refine AllReadyH.cons rfl (fun K hK => ?_) AllReadyH.nil
              go_simp
              obtain ⟨u, hu⟩ : ∃ z, z = v.alloc (.cells #[] 30) := ⟨_, rfl⟩
              have b : Below v.heap.size v u := by rw [hu]; exact (Below.refl _ _).alloc (Nat.le_refl _) _
              have eu : v.heap.size < u.heap.size := by rw [hu]; simp
              have fu : wB.heap.size ≤ v.heap.size := (unhide hbw).size
              have hE := hide ((unhide hE).later b)
              have zE : E < u.heap.size := Nat.lt_of_lt_of_le zE b.size
              have hT := cell_later b hT
              have zT : T < u.heap.size := Nat.lt_of_lt_of_le zT b.size
              have hD0 := cell_later b hD0
              have hD1 := cell_later b hD1
              have hDf0 := (b.frozen (p := ⟨D, 0, none⟩) zD).trans hDf0
              have hDf1 := (b.frozen (p := ⟨D, 1, none⟩) zD).trans hDf1
              have zD : D < u.heap.size := Nat.lt_of_lt_of_le zD b.size
              have hbw := hide ((unhide hbw).trans (b.mono (unhide hbw).size))
              have p0 := cell_later b p0
              have p1 := cell_later b p1
              have hX : Hid (u.heap[v.heap.size]? = some (.cells #[] 30 (0, 0))) := by show _ = _; rw [hu]; exact alloc_at rfl
              have nXE : v.heap.size ≠ E := by omega
              have nXT : v.heap.size ≠ T := by omega
              have nXD : v.heap.size ≠ D := by omega
              rw [← hu]
              obtain ⟨X, hXe⟩ : ∃ z, z = v.heap.size := ⟨_, rfl⟩
              rw [← hXe] at hX nXE nXT nXD ⊢
              have zX : X < u.heap.size := by omega
              have yX : wB.heap.size ≤ X := by omega
              clear hu b eu fu hXe
              refine hK.out _ _ ?_ (fun hHeld => ?_)
              · exact ⟨p0, p1⟩
              clear hK K
              try simp only [List.getElem_toArray, List.getElem_cons_succ, List.getElem_cons_zero, Act.put, List.setIfInBounds_toArray, List.set_cons_zero, List.set_cons_succ]
              rw [← unhide hGo]
              exact goTo (N_2_6_7_10 X E T D u hbw p0 p1 hX zX yX hE zE yE hT zT yT hD0 hD1 hDf0 hDf1 zD yD nXE nXT nXD nET nED nTD) (by kernel_rfl) (by kernel_rfl) (by rw [unhide ha0]; kernel_rfl)
            have N_2_5 : ∀ (X g5 c5 : Nat) (v : World) (hbw : Hid (Below wB.heap.size wB v)) (p0 : v.cell? ⟨w1.heap.size, 0, none⟩ = some (.int .i64 (m : Int))) (p1 : v.cell? ⟨w1.heap.size, 1, none⟩ = some (.slice a Lc.length cp)) (hO : Hid (v.ownsRow wB.heap.size 30 1 (.slice (some ⟨g5, 0, none⟩) Lc.length c5) Lc.length (scells Lc))) (zO : g5 < v.heap.size) (yO : wB.heap.size ≤ g5), Go 6 #[true, true, true, true, true, true, false, false, false, false, false, false] ((a0.put (some 79) (.slice (some ⟨X, 0, none⟩) 0 0)).put (some 82) (.slice (some ⟨g5, 0, none⟩) Lc.length c5)) v := by
              intro X g5 c5 v hbw p0 p1 hO zO yO
              rw [unhide hGo, unhide ha0]
              try simp only [List.getElem_toArray, List.getElem_cons_succ, List.getElem_cons_zero, Act.put, List.setIfInBounds_toArray, List.set_cons_zero, List.set_cons_succ]
              have hHeld : v.cell? ⟨w1.heap.size, 0, none⟩ = some (.int .i64 (m : Int)) ∧ v.cell? ⟨w1.heap.size, 1, none⟩ = some (.slice a Lc.length cp) := ⟨p0, p1⟩
              refine wpAnyH_ready (rs := [6, 10]) (by kernel_rfl) (by simp) ?_
              refine AllReadyH.cons rfl (fun K hK => ?_) (AllReadyH.cons rfl (fun K hK => ?_) AllReadyH.nil)
              · go_simp
                obtain ⟨u, hu⟩ : ∃ z, z = v.alloc (.cells #[.int .i64 0] 3) := ⟨_, rfl⟩
                have b : Below v.heap.size v u := by rw [hu]; exact (Below.refl _ _).alloc (Nat.le_refl _) _
                have eu : v.heap.size < u.heap.size := by rw [hu]; simp
                have fu : wB.heap.size ≤ v.heap.size := (unhide hbw).size
                have hO := hide (World.ownsRow.kept (w' := u) (unhide hO) (grown_below b) (by simp [Value.ownBlock]))
                have zO : g5 < u.heap.size := Nat.lt_of_lt_of_le zO b.size
                have hbw := hide ((unhide hbw).trans (b.mono (unhide hbw).size))
                have p0 := cell_later b p0
                have p1 := cell_later b p1
                have hE : Hid (Clz.Ok (⟨v.heap.size, 1, [0]⟩ : Clz) u 0) := by show Clz.Ok _ _ _; rw [hu]; exact clz_lit v 0 #[.int .i64 0] [0] rfl (by omega) (by simp) (unhide hLit)
                have nOE : g5 ≠ v.heap.size := by omega
                rw [← hu]
                obtain ⟨E, hEe⟩ : ∃ z, z = v.heap.size := ⟨_, rfl⟩
                rw [← hEe] at hE nOE ⊢
                have zE : E < u.heap.size := by omega
                have yE : wB.heap.size ≤ E := by omega
                clear hu b eu fu hEe
                refine hK.out _ _ ?_ (fun hHeld => ?_)
                · exact ⟨p0, p1⟩
                clear hK K
                try simp only [List.getElem_toArray, List.getElem_cons_succ, List.getElem_cons_zero, Act.put, List.setIfInBounds_toArray, List.set_cons_zero, List.set_cons_succ]
                rw [← unhide hGo]
                exact goTo (N_2_5_6 X g5 c5 E u hbw p0 p1 hO zO yO hE zE yE nOE) (by kernel_rfl) (by kernel_rfl) (by rw [unhide ha0]; kernel_rfl)
              · go_simp
                obtain ⟨u, hu⟩ : ∃ z, z = v.alloc (.cells #[.int .i64 0, .slice none 0 0] 25) := ⟨_, rfl⟩
                have b : Below v.heap.size v u := by rw [hu]; exact (Below.refl _ _).alloc (Nat.le_refl _) _
                have eu : v.heap.size < u.heap.size := by rw [hu]; simp
                have fu : wB.heap.size ≤ v.heap.size := (unhide hbw).size
                have hO := hide (World.ownsRow.kept (w' := u) (unhide hO) (grown_below b) (by simp [Value.ownBlock]))
                have zO : g5 < u.heap.size := Nat.lt_of_lt_of_le zO b.size
                have hbw := hide ((unhide hbw).trans (b.mono (unhide hbw).size))
                have p0 := cell_later b p0
                have p1 := cell_later b p1
                have hD0 : u.cell? ⟨v.heap.size, 0, none⟩ = some (.int .i64 0) := by rw [hu]; simp [go_sem]
                have hD1 : u.cell? ⟨v.heap.size, 1, none⟩ = some (.slice none 0 0) := by rw [hu]; simp [go_sem]
                have hDf0 : u.frozen? ⟨v.heap.size, 0, none⟩ = false := by rw [hu]; simp [go_sem]
                have hDf1 : u.frozen? ⟨v.heap.size, 1, none⟩ = false := by rw [hu]; simp [go_sem]
                have nOD : g5 ≠ v.heap.size := by omega
                rw [← hu]
                obtain ⟨D, hDe⟩ : ∃ z, z = v.heap.size := ⟨_, rfl⟩
                rw [← hDe] at hD0 hD1 hDf0 hDf1 nOD ⊢
                have zD : D < u.heap.size := by omega
                have yD : wB.heap.size ≤ D := by omega
                clear hu b eu fu hDe
                refine hK.out _ _ ?_ (fun hHeld => ?_)
                · exact ⟨p0, p1⟩
                clear hK K
                try simp only [List.getElem_toArray, List.getElem_cons_succ, List.getElem_cons_zero, Act.put, List.setIfInBounds_toArray, List.set_cons_zero, List.set_cons_succ]
                rw [← unhide hGo]
                exact goTo (N_2_5_10 X g5 c5 D u hbw p0 p1 hO zO yO hD0 hD1 hDf0 hDf1 zD yD nOD) (by kernel_rfl) (by kernel_rfl) (by rw [unhide ha0]; kernel_rfl)
            have N_2_6 : ∀ (X E : Nat) (v : World) (hbw : Hid (Below wB.heap.size wB v)) (p0 : v.cell? ⟨w1.heap.size, 0, none⟩ = some (.int .i64 (m : Int))) (p1 : v.cell? ⟨w1.heap.size, 1, none⟩ = some (.slice a Lc.length cp)) (hX : Hid (v.heap[X]? = some (.cells #[] 30 (0, 0)))) (zX : X < v.heap.size) (yX : wB.heap.size ≤ X) (hE : Hid (Clz.Ok (⟨E, 1, [0]⟩ : Clz) v 0)) (zE : E < v.heap.size) (yE : wB.heap.size ≤ E) (nXE : X ≠ E), Go 6 #[true, true, true, true, true, false, true, false, false, false, false, false] ((a0.put (some 79) (.slice (some ⟨X, 0, none⟩) 0 0)).put (some 83) (.slice (some ⟨E, 0, none⟩) 1 1)) v := by
              intro X E v hbw p0 p1 hX zX yX hE zE yE nXE
              rw [unhide hGo, unhide ha0]
              try simp only [List.getElem_toArray, List.getElem_cons_succ, List.getElem_cons_zero, Act.put, List.setIfInBounds_toArray, List.set_cons_zero, List.set_cons_succ]
              have hHeld : v.cell? ⟨w1.heap.size, 0, none⟩ = some (.int .i64 (m : Int)) ∧ v.cell? ⟨w1.heap.size, 1, none⟩ = some (.slice a Lc.length cp) := ⟨p0, p1⟩
              refine wpAnyH_ready (rs := [5, 7, 10]) (by kernel_rfl) (by simp) ?_
              refine AllReadyH.cons rfl (fun K hK => ?_) (AllReadyH.cons rfl (fun K hK => ?_) (AllReadyH.cons rfl (fun K hK => ?_) AllReadyH.nil))
              · apply step_clz_copy (R := 0) (Ls := Lc) (base := wB.heap.size)
                case hgd => rfl
                case ho => rfl
                case hty => rfl
                case hs => rfl
                case hX => exact unhide hX
                case hbX => exact yX
                case hbase => exact (unhide hbw).size
                case hx => rfl
                case hc => exact (unhide HC0).later (unhide hbw)
                case hl => omega
                case' h => intro g5 c5 u o5 gr5 at5 lt5
                have mv5 : Mov X _ u := mov_of_grown gr5
                have hE := hide ((unhide hE).grown (grown_mov mv5) (by simp only [ne_eq, Option.some.injEq]; omega))
                have zE : E < u.heap.size := Nat.lt_of_lt_of_le zE mv5.size
                have p0 := mv5.cell p0 (by simp only; omega)
                have p1 := mv5.cell p1 (by simp only; omega)
                have hbw := hide ((unhide hbw).trans (mv5.below yX (unhide hbw).size))
                have hO := hide o5
                have zO := lt5
                have yO : wB.heap.size ≤ g5 := own_base o5
                have nOE : g5 ≠ E := by rcases at5 with e | e <;> omega
                clear o5 gr5 at5 lt5 mv5
                refine hK.out _ _ ?_ (fun hHeld => ?_)
                · exact ⟨p0, p1⟩
                clear hK K
                try simp only [List.getElem_toArray, List.getElem_cons_succ, List.getElem_cons_zero, Act.put, List.setIfInBounds_toArray, List.set_cons_zero, List.set_cons_succ]
                rw [← unhide hGo]
                exact goTo (N_2_5_6 X g5 c5 E u hbw p0 p1 hO zO yO hE zE yE nOE) (by kernel_rfl) (by kernel_rfl) (by rw [unhide ha0]; kernel_rfl)
              · go_simp
                obtain ⟨u, hu⟩ : ∃ z, z = v.alloc (.cells #[.slice (some ⟨E, 0, none⟩) 1 1] 30) := ⟨_, rfl⟩
                have b : Below v.heap.size v u := by rw [hu]; exact (Below.refl _ _).alloc (Nat.le_refl _) _
                have eu : v.heap.size < u.heap.size := by rw [hu]; simp
                have fu : wB.heap.size ≤ v.heap.size := (unhide hbw).size
                have hX : Hid (u.heap[X]? = some (.cells #[] 30 (0, 0))) := (b.block _ (by omega)).trans (unhide hX)
                have zX : X < u.heap.size := Nat.lt_of_lt_of_le zX b.size
                have hE := hide ((unhide hE).later b)
                have zE : E < u.heap.size := Nat.lt_of_lt_of_le zE b.size
                have hbw := hide ((unhide hbw).trans (b.mono (unhide hbw).size))
                have p0 := cell_later b p0
                have p1 := cell_later b p1
                have hT : u.cell? ⟨v.heap.size, 0, none⟩ = some (.slice (some ⟨E, 0, none⟩) 1 1) := by rw [hu]; simp [go_sem]
                have nXT : X ≠ v.heap.size := by omega
                have nET : E ≠ v.heap.size := by omega
                rw [← hu]
                obtain ⟨T, hTe⟩ : ∃ z, z = v.heap.size := ⟨_, rfl⟩
                rw [← hTe] at hT nXT nET ⊢
                have zT : T < u.heap.size := by omega
                have yT : wB.heap.size ≤ T := by omega
                clear hu b eu fu hTe
                refine hK.out _ _ ?_ (fun hHeld => ?_)
                · exact ⟨p0, p1⟩
                clear hK K
                try simp only [List.getElem_toArray, List.getElem_cons_succ, List.getElem_cons_zero, Act.put, List.setIfInBounds_toArray, List.set_cons_zero, List.set_cons_succ]
                rw [← unhide hGo]
                exact goTo (N_2_6_7 X E T u hbw p0 p1 hX zX yX hE zE yE hT zT yT nXE nXT nET) (by kernel_rfl) (by kernel_rfl) (by rw [unhide ha0]; kernel_rfl)
              · go_simp
                obtain ⟨u, hu⟩ : ∃ z, z = v.alloc (.cells #[.int .i64 0, .slice none 0 0] 25) := ⟨_, rfl⟩
                have b : Below v.heap.size v u := by rw [hu]; exact (Below.refl _ _).alloc (Nat.le_refl _) _
                have eu : v.heap.size < u.heap.size := by rw [hu]; simp
                have fu : wB.heap.size ≤ v.heap.size := (unhide hbw).size
                have hX : Hid (u.heap[X]? = some (.cells #[] 30 (0, 0))) := (b.block _ (by omega)).trans (unhide hX)
                have zX : X < u.heap.size := Nat.lt_of_lt_of_le zX b.size
                have hE := hide ((unhide hE).later b)
                have zE : E < u.heap.size := Nat.lt_of_lt_of_le zE b.size
                have hbw := hide ((unhide hbw).trans (b.mono (unhide hbw).size))
                have p0 := cell_later b p0
                have p1 := cell_later b p1
                have hD0 : u.cell? ⟨v.heap.size, 0, none⟩ = some (.int .i64 0) := by rw [hu]; simp [go_sem]
                have hD1 : u.cell? ⟨v.heap.size, 1, none⟩ = some (.slice none 0 0) := by rw [hu]; simp [go_sem]
                have hDf0 : u.frozen? ⟨v.heap.size, 0, none⟩ = false := by rw [hu]; simp [go_sem]
                have hDf1 : u.frozen? ⟨v.heap.size, 1, none⟩ = false := by rw [hu]; simp [go_sem]
                have nXD : X ≠ v.heap.size := by omega
                have nED : E ≠ v.heap.size := by omega
                rw [← hu]
                obtain ⟨D, hDe⟩ : ∃ z, z = v.heap.size := ⟨_, rfl⟩
                rw [← hDe] at hD0 hD1 hDf0 hDf1 nXD nED ⊢
                have zD : D < u.heap.size := by omega
                have yD : wB.heap.size ≤ D := by omega
                clear hu b eu fu hDe
                refine hK.out _ _ ?_ (fun hHeld => ?_)
                · exact ⟨p0, p1⟩
                clear hK K
                try simp only [List.getElem_toArray, List.getElem_cons_succ, List.getElem_cons_zero, Act.put, List.setIfInBounds_toArray, List.set_cons_zero, List.set_cons_succ]
                rw [← unhide hGo]
                exact goTo (N_2_6_10 X E D u hbw p0 p1 hX zX yX hE zE yE hD0 hD1 hDf0 hDf1 zD yD nXE nXD nED) (by kernel_rfl) (by kernel_rfl) (by rw [unhide ha0]; kernel_rfl)
            have N_2_10 : ∀ (X D : Nat) (v : World) (hbw : Hid (Below wB.heap.size wB v)) (p0 : v.cell? ⟨w1.heap.size, 0, none⟩ = some (.int .i64 (m : Int))) (p1 : v.cell? ⟨w1.heap.size, 1, none⟩ = some (.slice a Lc.length cp)) (hX : Hid (v.heap[X]? = some (.cells #[] 30 (0, 0)))) (zX : X < v.heap.size) (yX : wB.heap.size ≤ X) (hD0 : v.cell? ⟨D, 0, none⟩ = some (.int .i64 0)) (hD1 : v.cell? ⟨D, 1, none⟩ = some (.slice none 0 0)) (hDf0 : v.frozen? ⟨D, 0, none⟩ = false) (hDf1 : v.frozen? ⟨D, 1, none⟩ = false) (zD : D < v.heap.size) (yD : wB.heap.size ≤ D) (nXD : X ≠ D), Go 6 #[true, true, true, true, true, false, false, false, false, false, true, false] ((a0.put (some 79) (.slice (some ⟨X, 0, none⟩) 0 0)).put (some 7) (.pointer (some ⟨D, 0, none⟩))) v := by
              intro X D v hbw p0 p1 hX zX yX hD0 hD1 hDf0 hDf1 zD yD nXD
              rw [unhide hGo, unhide ha0]
              try simp only [List.getElem_toArray, List.getElem_cons_succ, List.getElem_cons_zero, Act.put, List.setIfInBounds_toArray, List.set_cons_zero, List.set_cons_succ]
              have hHeld : v.cell? ⟨w1.heap.size, 0, none⟩ = some (.int .i64 (m : Int)) ∧ v.cell? ⟨w1.heap.size, 1, none⟩ = some (.slice a Lc.length cp) := ⟨p0, p1⟩
              refine wpAnyH_ready (rs := [5, 6]) (by kernel_rfl) (by simp) ?_
              refine AllReadyH.cons rfl (fun K hK => ?_) (AllReadyH.cons rfl (fun K hK => ?_) AllReadyH.nil)
              · apply step_clz_copy (R := 0) (Ls := Lc) (base := wB.heap.size)
                case hgd => rfl
                case ho => rfl
                case hty => rfl
                case hs => rfl
                case hX => exact unhide hX
                case hbX => exact yX
                case hbase => exact (unhide hbw).size
                case hx => rfl
                case hc => exact (unhide HC0).later (unhide hbw)
                case hl => omega
                case' h => intro g5 c5 u o5 gr5 at5 lt5
                have mv5 : Mov X _ u := mov_of_grown gr5
                have hD0 := mv5.cell hD0 (by simp only; omega)
                have hD1 := mv5.cell hD1 (by simp only; omega)
                have hDf0 := (World.frozen?_of_block (w := v) (a := ⟨D, 0, none⟩) (mv5.2.2.2.2 D zD (by omega))).trans hDf0
                have hDf1 := (World.frozen?_of_block (w := v) (a := ⟨D, 1, none⟩) (mv5.2.2.2.2 D zD (by omega))).trans hDf1
                have zD : D < u.heap.size := Nat.lt_of_lt_of_le zD mv5.size
                have p0 := mv5.cell p0 (by simp only; omega)
                have p1 := mv5.cell p1 (by simp only; omega)
                have hbw := hide ((unhide hbw).trans (mv5.below yX (unhide hbw).size))
                have hO := hide o5
                have zO := lt5
                have yO : wB.heap.size ≤ g5 := own_base o5
                have nOD : g5 ≠ D := by rcases at5 with e | e <;> omega
                clear o5 gr5 at5 lt5 mv5
                refine hK.out _ _ ?_ (fun hHeld => ?_)
                · exact ⟨p0, p1⟩
                clear hK K
                try simp only [List.getElem_toArray, List.getElem_cons_succ, List.getElem_cons_zero, Act.put, List.setIfInBounds_toArray, List.set_cons_zero, List.set_cons_succ]
                rw [← unhide hGo]
                exact goTo (N_2_5_10 X g5 c5 D u hbw p0 p1 hO zO yO hD0 hD1 hDf0 hDf1 zD yD nOD) (by kernel_rfl) (by kernel_rfl) (by rw [unhide ha0]; kernel_rfl)
              · go_simp
                obtain ⟨u, hu⟩ : ∃ z, z = v.alloc (.cells #[.int .i64 0] 3) := ⟨_, rfl⟩
                have b : Below v.heap.size v u := by rw [hu]; exact (Below.refl _ _).alloc (Nat.le_refl _) _
                have eu : v.heap.size < u.heap.size := by rw [hu]; simp
                have fu : wB.heap.size ≤ v.heap.size := (unhide hbw).size
                have hX : Hid (u.heap[X]? = some (.cells #[] 30 (0, 0))) := (b.block _ (by omega)).trans (unhide hX)
                have zX : X < u.heap.size := Nat.lt_of_lt_of_le zX b.size
                have hD0 := cell_later b hD0
                have hD1 := cell_later b hD1
                have hDf0 := (b.frozen (p := ⟨D, 0, none⟩) zD).trans hDf0
                have hDf1 := (b.frozen (p := ⟨D, 1, none⟩) zD).trans hDf1
                have zD : D < u.heap.size := Nat.lt_of_lt_of_le zD b.size
                have hbw := hide ((unhide hbw).trans (b.mono (unhide hbw).size))
                have p0 := cell_later b p0
                have p1 := cell_later b p1
                have hE : Hid (Clz.Ok (⟨v.heap.size, 1, [0]⟩ : Clz) u 0) := by show Clz.Ok _ _ _; rw [hu]; exact clz_lit v 0 #[.int .i64 0] [0] rfl (by omega) (by simp) (unhide hLit)
                have nXE : X ≠ v.heap.size := by omega
                have nED : v.heap.size ≠ D := by omega
                rw [← hu]
                obtain ⟨E, hEe⟩ : ∃ z, z = v.heap.size := ⟨_, rfl⟩
                rw [← hEe] at hE nXE nED ⊢
                have zE : E < u.heap.size := by omega
                have yE : wB.heap.size ≤ E := by omega
                clear hu b eu fu hEe
                refine hK.out _ _ ?_ (fun hHeld => ?_)
                · exact ⟨p0, p1⟩
                clear hK K
                try simp only [List.getElem_toArray, List.getElem_cons_succ, List.getElem_cons_zero, Act.put, List.setIfInBounds_toArray, List.set_cons_zero, List.set_cons_succ]
                rw [← unhide hGo]
                exact goTo (N_2_6_10 X E D u hbw p0 p1 hX zX yX hE zE yE hD0 hD1 hDf0 hDf1 zD yD nXE nXD nED) (by kernel_rfl) (by kernel_rfl) (by rw [unhide ha0]; kernel_rfl)
            have N_6_7 : ∀ (E T : Nat) (v : World) (hbw : Hid (Below wB.heap.size wB v)) (p0 : v.cell? ⟨w1.heap.size, 0, none⟩ = some (.int .i64 (m : Int))) (p1 : v.cell? ⟨w1.heap.size, 1, none⟩ = some (.slice a Lc.length cp)) (hE : Hid (Clz.Ok (⟨E, 1, [0]⟩ : Clz) v 0)) (zE : E < v.heap.size) (yE : wB.heap.size ≤ E) (hT : v.cell? ⟨T, 0, none⟩ = some (.slice (some ⟨E, 0, none⟩) 1 1)) (zT : T < v.heap.size) (yT : wB.heap.size ≤ T) (nET : E ≠ T), Go 6 #[true, true, false, true, true, false, true, true, false, false, false, false] ((a0.put (some 83) (.slice (some ⟨E, 0, none⟩) 1 1)).put (some 84) (.slice (some ⟨T, 0, none⟩) 1 1)) v := by
              intro E T v hbw p0 p1 hE zE yE hT zT yT nET
              rw [unhide hGo, unhide ha0]
              try simp only [List.getElem_toArray, List.getElem_cons_succ, List.getElem_cons_zero, Act.put, List.setIfInBounds_toArray, List.set_cons_zero, List.set_cons_succ]
              have hHeld : v.cell? ⟨w1.heap.size, 0, none⟩ = some (.int .i64 (m : Int)) ∧ v.cell? ⟨w1.heap.size, 1, none⟩ = some (.slice a Lc.length cp) := ⟨p0, p1⟩
              refine wpAnyH_ready (rs := [2, 10]) (by kernel_rfl) (by simp) ?_
              refine AllReadyH.cons rfl (fun K hK => ?_) (AllReadyH.cons rfl (fun K hK => ?_) AllReadyH.nil)
              · go_simp
                obtain ⟨u, hu⟩ : ∃ z, z = v.alloc (.cells #[] 30) := ⟨_, rfl⟩
                have b : Below v.heap.size v u := by rw [hu]; exact (Below.refl _ _).alloc (Nat.le_refl _) _
                have eu : v.heap.size < u.heap.size := by rw [hu]; simp
                have fu : wB.heap.size ≤ v.heap.size := (unhide hbw).size
                have hE := hide ((unhide hE).later b)
                have zE : E < u.heap.size := Nat.lt_of_lt_of_le zE b.size
                have hT := cell_later b hT
                have zT : T < u.heap.size := Nat.lt_of_lt_of_le zT b.size
                have hbw := hide ((unhide hbw).trans (b.mono (unhide hbw).size))
                have p0 := cell_later b p0
                have p1 := cell_later b p1
                have hX : Hid (u.heap[v.heap.size]? = some (.cells #[] 30 (0, 0))) := by show _ = _; rw [hu]; exact alloc_at rfl
                have nXE : v.heap.size ≠ E := by omega
                have nXT : v.heap.size ≠ T := by omega
                rw [← hu]
                obtain ⟨X, hXe⟩ : ∃ z, z = v.heap.size := ⟨_, rfl⟩
                rw [← hXe] at hX nXE nXT ⊢
                have zX : X < u.heap.size := by omega
                have yX : wB.heap.size ≤ X := by omega
                clear hu b eu fu hXe
                refine hK.out _ _ ?_ (fun hHeld => ?_)
                · exact ⟨p0, p1⟩
                clear hK K
                try simp only [List.getElem_toArray, List.getElem_cons_succ, List.getElem_cons_zero, Act.put, List.setIfInBounds_toArray, List.set_cons_zero, List.set_cons_succ]
                rw [← unhide hGo]
                exact goTo (N_2_6_7 X E T u hbw p0 p1 hX zX yX hE zE yE hT zT yT nXE nXT nET) (by kernel_rfl) (by kernel_rfl) (by rw [unhide ha0]; kernel_rfl)
              · go_simp
                obtain ⟨u, hu⟩ : ∃ z, z = v.alloc (.cells #[.int .i64 0, .slice none 0 0] 25) := ⟨_, rfl⟩
                have b : Below v.heap.size v u := by rw [hu]; exact (Below.refl _ _).alloc (Nat.le_refl _) _
                have eu : v.heap.size < u.heap.size := by rw [hu]; simp
                have fu : wB.heap.size ≤ v.heap.size := (unhide hbw).size
                have hE := hide ((unhide hE).later b)
                have zE : E < u.heap.size := Nat.lt_of_lt_of_le zE b.size
                have hT := cell_later b hT
                have zT : T < u.heap.size := Nat.lt_of_lt_of_le zT b.size
                have hbw := hide ((unhide hbw).trans (b.mono (unhide hbw).size))
                have p0 := cell_later b p0
                have p1 := cell_later b p1
                have hD0 : u.cell? ⟨v.heap.size, 0, none⟩ = some (.int .i64 0) := by rw [hu]; simp [go_sem]
                have hD1 : u.cell? ⟨v.heap.size, 1, none⟩ = some (.slice none 0 0) := by rw [hu]; simp [go_sem]
                have hDf0 : u.frozen? ⟨v.heap.size, 0, none⟩ = false := by rw [hu]; simp [go_sem]
                have hDf1 : u.frozen? ⟨v.heap.size, 1, none⟩ = false := by rw [hu]; simp [go_sem]
                have nED : E ≠ v.heap.size := by omega
                have nTD : T ≠ v.heap.size := by omega
                rw [← hu]
                obtain ⟨D, hDe⟩ : ∃ z, z = v.heap.size := ⟨_, rfl⟩
                rw [← hDe] at hD0 hD1 hDf0 hDf1 nED nTD ⊢
                have zD : D < u.heap.size := by omega
                have yD : wB.heap.size ≤ D := by omega
                clear hu b eu fu hDe
                refine hK.out _ _ ?_ (fun hHeld => ?_)
                · exact ⟨p0, p1⟩
                clear hK K
                try simp only [List.getElem_toArray, List.getElem_cons_succ, List.getElem_cons_zero, Act.put, List.setIfInBounds_toArray, List.set_cons_zero, List.set_cons_succ]
                rw [← unhide hGo]
                exact goTo (N_6_7_10 E T D u hbw p0 p1 hE zE yE hT zT yT hD0 hD1 hDf0 hDf1 zD yD nET nED nTD) (by kernel_rfl) (by kernel_rfl) (by rw [unhide ha0]; kernel_rfl)
            have N_6_10 : ∀ (E D : Nat) (v : World) (hbw : Hid (Below wB.heap.size wB v)) (p0 : v.cell? ⟨w1.heap.size, 0, none⟩ = some (.int .i64 (m : Int))) (p1 : v.cell? ⟨w1.heap.size, 1, none⟩ = some (.slice a Lc.length cp)) (hE : Hid (Clz.Ok (⟨E, 1, [0]⟩ : Clz) v 0)) (zE : E < v.heap.size) (yE : wB.heap.size ≤ E) (hD0 : v.cell? ⟨D, 0, none⟩ = some (.int .i64 0)) (hD1 : v.cell? ⟨D, 1, none⟩ = some (.slice none 0 0)) (hDf0 : v.frozen? ⟨D, 0, none⟩ = false) (hDf1 : v.frozen? ⟨D, 1, none⟩ = false) (zD : D < v.heap.size) (yD : wB.heap.size ≤ D) (nED : E ≠ D), Go 6 #[true, true, false, true, true, false, true, false, false, false, true, false] ((a0.put (some 83) (.slice (some ⟨E, 0, none⟩) 1 1)).put (some 7) (.pointer (some ⟨D, 0, none⟩))) v := by
              intro E D v hbw p0 p1 hE zE yE hD0 hD1 hDf0 hDf1 zD yD nED
              rw [unhide hGo, unhide ha0]
              try simp only [List.getElem_toArray, List.getElem_cons_succ, List.getElem_cons_zero, Act.put, List.setIfInBounds_toArray, List.set_cons_zero, List.set_cons_succ]
              have hHeld : v.cell? ⟨w1.heap.size, 0, none⟩ = some (.int .i64 (m : Int)) ∧ v.cell? ⟨w1.heap.size, 1, none⟩ = some (.slice a Lc.length cp) := ⟨p0, p1⟩
              refine wpAnyH_ready (rs := [2, 7]) (by kernel_rfl) (by simp) ?_
              refine AllReadyH.cons rfl (fun K hK => ?_) (AllReadyH.cons rfl (fun K hK => ?_) AllReadyH.nil)
              · go_simp
                obtain ⟨u, hu⟩ : ∃ z, z = v.alloc (.cells #[] 30) := ⟨_, rfl⟩
                have b : Below v.heap.size v u := by rw [hu]; exact (Below.refl _ _).alloc (Nat.le_refl _) _
                have eu : v.heap.size < u.heap.size := by rw [hu]; simp
                have fu : wB.heap.size ≤ v.heap.size := (unhide hbw).size
                have hE := hide ((unhide hE).later b)
                have zE : E < u.heap.size := Nat.lt_of_lt_of_le zE b.size
                have hD0 := cell_later b hD0
                have hD1 := cell_later b hD1
                have hDf0 := (b.frozen (p := ⟨D, 0, none⟩) zD).trans hDf0
                have hDf1 := (b.frozen (p := ⟨D, 1, none⟩) zD).trans hDf1
                have zD : D < u.heap.size := Nat.lt_of_lt_of_le zD b.size
                have hbw := hide ((unhide hbw).trans (b.mono (unhide hbw).size))
                have p0 := cell_later b p0
                have p1 := cell_later b p1
                have hX : Hid (u.heap[v.heap.size]? = some (.cells #[] 30 (0, 0))) := by show _ = _; rw [hu]; exact alloc_at rfl
                have nXE : v.heap.size ≠ E := by omega
                have nXD : v.heap.size ≠ D := by omega
                rw [← hu]
                obtain ⟨X, hXe⟩ : ∃ z, z = v.heap.size := ⟨_, rfl⟩
                rw [← hXe] at hX nXE nXD ⊢
                have zX : X < u.heap.size := by omega
                have yX : wB.heap.size ≤ X := by omega
                clear hu b eu fu hXe
                refine hK.out _ _ ?_ (fun hHeld => ?_)
                · exact ⟨p0, p1⟩
                clear hK K
                try simp only [List.getElem_toArray, List.getElem_cons_succ, List.getElem_cons_zero, Act.put, List.setIfInBounds_toArray, List.set_cons_zero, List.set_cons_succ]
                rw [← unhide hGo]
                exact goTo (N_2_6_10 X E D u hbw p0 p1 hX zX yX hE zE yE hD0 hD1 hDf0 hDf1 zD yD nXE nXD nED) (by kernel_rfl) (by kernel_rfl) (by rw [unhide ha0]; kernel_rfl)
              · go_simp
                obtain ⟨u, hu⟩ : ∃ z, z = v.alloc (.cells #[.slice (some ⟨E, 0, none⟩) 1 1] 30) := ⟨_, rfl⟩
                have b : Below v.heap.size v u := by rw [hu]; exact (Below.refl _ _).alloc (Nat.le_refl _) _
                have eu : v.heap.size < u.heap.size := by rw [hu]; simp
                have fu : wB.heap.size ≤ v.heap.size := (unhide hbw).size
                have hE := hide ((unhide hE).later b)
                have zE : E < u.heap.size := Nat.lt_of_lt_of_le zE b.size
                have hD0 := cell_later b hD0
                have hD1 := cell_later b hD1
                have hDf0 := (b.frozen (p := ⟨D, 0, none⟩) zD).trans hDf0
                have hDf1 := (b.frozen (p := ⟨D, 1, none⟩) zD).trans hDf1
                have zD : D < u.heap.size := Nat.lt_of_lt_of_le zD b.size
                have hbw := hide ((unhide hbw).trans (b.mono (unhide hbw).size))
                have p0 := cell_later b p0
                have p1 := cell_later b p1
                have hT : u.cell? ⟨v.heap.size, 0, none⟩ = some (.slice (some ⟨E, 0, none⟩) 1 1) := by rw [hu]; simp [go_sem]
                have nET : E ≠ v.heap.size := by omega
                have nTD : v.heap.size ≠ D := by omega
                rw [← hu]
                obtain ⟨T, hTe⟩ : ∃ z, z = v.heap.size := ⟨_, rfl⟩
                rw [← hTe] at hT nET nTD ⊢
                have zT : T < u.heap.size := by omega
                have yT : wB.heap.size ≤ T := by omega
                clear hu b eu fu hTe
                refine hK.out _ _ ?_ (fun hHeld => ?_)
                · exact ⟨p0, p1⟩
                clear hK K
                try simp only [List.getElem_toArray, List.getElem_cons_succ, List.getElem_cons_zero, Act.put, List.setIfInBounds_toArray, List.set_cons_zero, List.set_cons_succ]
                rw [← unhide hGo]
                exact goTo (N_6_7_10 E T D u hbw p0 p1 hE zE yE hT zT yT hD0 hD1 hDf0 hDf1 zD yD nET nED nTD) (by kernel_rfl) (by kernel_rfl) (by rw [unhide ha0]; kernel_rfl)
            have N_2 : ∀ (X : Nat) (v : World) (hbw : Hid (Below wB.heap.size wB v)) (p0 : v.cell? ⟨w1.heap.size, 0, none⟩ = some (.int .i64 (m : Int))) (p1 : v.cell? ⟨w1.heap.size, 1, none⟩ = some (.slice a Lc.length cp)) (hX : Hid (v.heap[X]? = some (.cells #[] 30 (0, 0)))) (zX : X < v.heap.size) (yX : wB.heap.size ≤ X), Go 7 #[true, true, true, true, true, false, false, false, false, false, false, false] (a0.put (some 79) (.slice (some ⟨X, 0, none⟩) 0 0)) v := by
              intro X v hbw p0 p1 hX zX yX
              rw [unhide hGo, unhide ha0]
              try simp only [List.getElem_toArray, List.getElem_cons_succ, List.getElem_cons_zero, Act.put, List.setIfInBounds_toArray, List.set_cons_zero, List.set_cons_succ]
              have hHeld : v.cell? ⟨w1.heap.size, 0, none⟩ = some (.int .i64 (m : Int)) ∧ v.cell? ⟨w1.heap.size, 1, none⟩ = some (.slice a Lc.length cp) := ⟨p0, p1⟩
              refine wpAnyH_ready (rs := [5, 6, 10]) (by kernel_rfl) (by simp) ?_
              refine AllReadyH.cons rfl (fun K hK => ?_) (AllReadyH.cons rfl (fun K hK => ?_) (AllReadyH.cons rfl (fun K hK => ?_) AllReadyH.nil))
              · apply step_clz_copy (R := 0) (Ls := Lc) (base := wB.heap.size)
                case hgd => rfl
                case ho => rfl
                case hty => rfl
                case hs => rfl
                case hX => exact unhide hX
                case hbX => exact yX
                case hbase => exact (unhide hbw).size
                case hx => rfl
                case hc => exact (unhide HC0).later (unhide hbw)
                case hl => omega
                case' h => intro g5 c5 u o5 gr5 at5 lt5
                have mv5 : Mov X _ u := mov_of_grown gr5
                have p0 := mv5.cell p0 (by simp only; omega)
                have p1 := mv5.cell p1 (by simp only; omega)
                have hbw := hide ((unhide hbw).trans (mv5.below yX (unhide hbw).size))
                have hO := hide o5
                have zO := lt5
                have yO : wB.heap.size ≤ g5 := own_base o5
                clear o5 gr5 at5 lt5 mv5
                refine hK.out _ _ ?_ (fun hHeld => ?_)
                · exact ⟨p0, p1⟩
                clear hK K
                try simp only [List.getElem_toArray, List.getElem_cons_succ, List.getElem_cons_zero, Act.put, List.setIfInBounds_toArray, List.set_cons_zero, List.set_cons_succ]
                rw [← unhide hGo]
                exact goTo (N_2_5 X g5 c5 u hbw p0 p1 hO zO yO) (by kernel_rfl) (by kernel_rfl) (by rw [unhide ha0]; kernel_rfl)
              · go_simp
                obtain ⟨u, hu⟩ : ∃ z, z = v.alloc (.cells #[.int .i64 0] 3) := ⟨_, rfl⟩
                have b : Below v.heap.size v u := by rw [hu]; exact (Below.refl _ _).alloc (Nat.le_refl _) _
                have eu : v.heap.size < u.heap.size := by rw [hu]; simp
                have fu : wB.heap.size ≤ v.heap.size := (unhide hbw).size
                have hX : Hid (u.heap[X]? = some (.cells #[] 30 (0, 0))) := (b.block _ (by omega)).trans (unhide hX)
                have zX : X < u.heap.size := Nat.lt_of_lt_of_le zX b.size
                have hbw := hide ((unhide hbw).trans (b.mono (unhide hbw).size))
                have p0 := cell_later b p0
                have p1 := cell_later b p1
                have hE : Hid (Clz.Ok (⟨v.heap.size, 1, [0]⟩ : Clz) u 0) := by show Clz.Ok _ _ _; rw [hu]; exact clz_lit v 0 #[.int .i64 0] [0] rfl (by omega) (by simp) (unhide hLit)
                have nXE : X ≠ v.heap.size := by omega
                rw [← hu]
                obtain ⟨E, hEe⟩ : ∃ z, z = v.heap.size := ⟨_, rfl⟩
                rw [← hEe] at hE nXE ⊢
                have zE : E < u.heap.size := by omega
                have yE : wB.heap.size ≤ E := by omega
                clear hu b eu fu hEe
                refine hK.out _ _ ?_ (fun hHeld => ?_)
                · exact ⟨p0, p1⟩
                clear hK K
                try simp only [List.getElem_toArray, List.getElem_cons_succ, List.getElem_cons_zero, Act.put, List.setIfInBounds_toArray, List.set_cons_zero, List.set_cons_succ]
                rw [← unhide hGo]
                exact goTo (N_2_6 X E u hbw p0 p1 hX zX yX hE zE yE nXE) (by kernel_rfl) (by kernel_rfl) (by rw [unhide ha0]; kernel_rfl)
              · go_simp
                obtain ⟨u, hu⟩ : ∃ z, z = v.alloc (.cells #[.int .i64 0, .slice none 0 0] 25) := ⟨_, rfl⟩
                have b : Below v.heap.size v u := by rw [hu]; exact (Below.refl _ _).alloc (Nat.le_refl _) _
                have eu : v.heap.size < u.heap.size := by rw [hu]; simp
                have fu : wB.heap.size ≤ v.heap.size := (unhide hbw).size
                have hX : Hid (u.heap[X]? = some (.cells #[] 30 (0, 0))) := (b.block _ (by omega)).trans (unhide hX)
                have zX : X < u.heap.size := Nat.lt_of_lt_of_le zX b.size
                have hbw := hide ((unhide hbw).trans (b.mono (unhide hbw).size))
                have p0 := cell_later b p0
                have p1 := cell_later b p1
                have hD0 : u.cell? ⟨v.heap.size, 0, none⟩ = some (.int .i64 0) := by rw [hu]; simp [go_sem]
                have hD1 : u.cell? ⟨v.heap.size, 1, none⟩ = some (.slice none 0 0) := by rw [hu]; simp [go_sem]
                have hDf0 : u.frozen? ⟨v.heap.size, 0, none⟩ = false := by rw [hu]; simp [go_sem]
                have hDf1 : u.frozen? ⟨v.heap.size, 1, none⟩ = false := by rw [hu]; simp [go_sem]
                have nXD : X ≠ v.heap.size := by omega
                rw [← hu]
                obtain ⟨D, hDe⟩ : ∃ z, z = v.heap.size := ⟨_, rfl⟩
                rw [← hDe] at hD0 hD1 hDf0 hDf1 nXD ⊢
                have zD : D < u.heap.size := by omega
                have yD : wB.heap.size ≤ D := by omega
                clear hu b eu fu hDe
                refine hK.out _ _ ?_ (fun hHeld => ?_)
                · exact ⟨p0, p1⟩
                clear hK K
                try simp only [List.getElem_toArray, List.getElem_cons_succ, List.getElem_cons_zero, Act.put, List.setIfInBounds_toArray, List.set_cons_zero, List.set_cons_succ]
                rw [← unhide hGo]
                exact goTo (N_2_10 X D u hbw p0 p1 hX zX yX hD0 hD1 hDf0 hDf1 zD yD nXD) (by kernel_rfl) (by kernel_rfl) (by rw [unhide ha0]; kernel_rfl)
            have N_6 : ∀ (E : Nat) (v : World) (hbw : Hid (Below wB.heap.size wB v)) (p0 : v.cell? ⟨w1.heap.size, 0, none⟩ = some (.int .i64 (m : Int))) (p1 : v.cell? ⟨w1.heap.size, 1, none⟩ = some (.slice a Lc.length cp)) (hE : Hid (Clz.Ok (⟨E, 1, [0]⟩ : Clz) v 0)) (zE : E < v.heap.size) (yE : wB.heap.size ≤ E), Go 7 #[true, true, false, true, true, false, true, false, false, false, false, false] (a0.put (some 83) (.slice (some ⟨E, 0, none⟩) 1 1)) v := by
              intro E v hbw p0 p1 hE zE yE
              rw [unhide hGo, unhide ha0]
              try simp only [List.getElem_toArray, List.getElem_cons_succ, List.getElem_cons_zero, Act.put, List.setIfInBounds_toArray, List.set_cons_zero, List.set_cons_succ]
              have hHeld : v.cell? ⟨w1.heap.size, 0, none⟩ = some (.int .i64 (m : Int)) ∧ v.cell? ⟨w1.heap.size, 1, none⟩ = some (.slice a Lc.length cp) := ⟨p0, p1⟩
              refine wpAnyH_ready (rs := [2, 7, 10]) (by kernel_rfl) (by simp) ?_
              refine AllReadyH.cons rfl (fun K hK => ?_) (AllReadyH.cons rfl (fun K hK => ?_) (AllReadyH.cons rfl (fun K hK => ?_) AllReadyH.nil))
              · go_simp
                obtain ⟨u, hu⟩ : ∃ z, z = v.alloc (.cells #[] 30) := ⟨_, rfl⟩
                have b : Below v.heap.size v u := by rw [hu]; exact (Below.refl _ _).alloc (Nat.le_refl _) _
                have eu : v.heap.size < u.heap.size := by rw [hu]; simp
                have fu : wB.heap.size ≤ v.heap.size := (unhide hbw).size
                have hE := hide ((unhide hE).later b)
                have zE : E < u.heap.size := Nat.lt_of_lt_of_le zE b.size
                have hbw := hide ((unhide hbw).trans (b.mono (unhide hbw).size))
                have p0 := cell_later b p0
                have p1 := cell_later b p1
                have hX : Hid (u.heap[v.heap.size]? = some (.cells #[] 30 (0, 0))) := by show _ = _; rw [hu]; exact alloc_at rfl
                have nXE : v.heap.size ≠ E := by omega
                rw [← hu]
                obtain ⟨X, hXe⟩ : ∃ z, z = v.heap.size := ⟨_, rfl⟩
                rw [← hXe] at hX nXE ⊢
                have zX : X < u.heap.size := by omega
                have yX : wB.heap.size ≤ X := by omega
                clear hu b eu fu hXe
                refine hK.out _ _ ?_ (fun hHeld => ?_)
                · exact ⟨p0, p1⟩
                clear hK K
                try simp only [List.getElem_toArray, List.getElem_cons_succ, List.getElem_cons_zero, Act.put, List.setIfInBounds_toArray, List.set_cons_zero, List.set_cons_succ]
                rw [← unhide hGo]
                exact goTo (N_2_6 X E u hbw p0 p1 hX zX yX hE zE yE nXE) (by kernel_rfl) (by kernel_rfl) (by rw [unhide ha0]; kernel_rfl)
              · go_simp
                obtain ⟨u, hu⟩ : ∃ z, z = v.alloc (.cells #[.slice (some ⟨E, 0, none⟩) 1 1] 30) := ⟨_, rfl⟩
                have b : Below v.heap.size v u := by rw [hu]; exact (Below.refl _ _).alloc (Nat.le_refl _) _
                have eu : v.heap.size < u.heap.size := by rw [hu]; simp
                have fu : wB.heap.size ≤ v.heap.size := (unhide hbw).size
                have hE := hide ((unhide hE).later b)
                have zE : E < u.heap.size := Nat.lt_of_lt_of_le zE b.size
                have hbw := hide ((unhide hbw).trans (b.mono (unhide hbw).size))
                have p0 := cell_later b p0
                have p1 := cell_later b p1
                have hT : u.cell? ⟨v.heap.size, 0, none⟩ = some (.slice (some ⟨E, 0, none⟩) 1 1) := by rw [hu]; simp [go_sem]
                have nET : E ≠ v.heap.size := by omega
                rw [← hu]
                obtain ⟨T, hTe⟩ : ∃ z, z = v.heap.size := ⟨_, rfl⟩
                rw [← hTe] at hT nET ⊢
                have zT : T < u.heap.size := by omega
                have yT : wB.heap.size ≤ T := by omega
                clear hu b eu fu hTe
                refine hK.out _ _ ?_ (fun hHeld => ?_)
                · exact ⟨p0, p1⟩
                clear hK K
                try simp only [List.getElem_toArray, List.getElem_cons_succ, List.getElem_cons_zero, Act.put, List.setIfInBounds_toArray, List.set_cons_zero, List.set_cons_succ]
                rw [← unhide hGo]
                exact goTo (N_6_7 E T u hbw p0 p1 hE zE yE hT zT yT nET) (by kernel_rfl) (by kernel_rfl) (by rw [unhide ha0]; kernel_rfl)
              · go_simp
                obtain ⟨u, hu⟩ : ∃ z, z = v.alloc (.cells #[.int .i64 0, .slice none 0 0] 25) := ⟨_, rfl⟩
                have b : Below v.heap.size v u := by rw [hu]; exact (Below.refl _ _).alloc (Nat.le_refl _) _
                have eu : v.heap.size < u.heap.size := by rw [hu]; simp
                have fu : wB.heap.size ≤ v.heap.size := (unhide hbw).size
                have hE := hide ((unhide hE).later b)
                have zE : E < u.heap.size := Nat.lt_of_lt_of_le zE b.size
                have hbw := hide ((unhide hbw).trans (b.mono (unhide hbw).size))
                have p0 := cell_later b p0
                have p1 := cell_later b p1
                have hD0 : u.cell? ⟨v.heap.size, 0, none⟩ = some (.int .i64 0) := by rw [hu]; simp [go_sem]
                have hD1 : u.cell? ⟨v.heap.size, 1, none⟩ = some (.slice none 0 0) := by rw [hu]; simp [go_sem]
                have hDf0 : u.frozen? ⟨v.heap.size, 0, none⟩ = false := by rw [hu]; simp [go_sem]
                have hDf1 : u.frozen? ⟨v.heap.size, 1, none⟩ = false := by rw [hu]; simp [go_sem]
                have nED : E ≠ v.heap.size := by omega
                rw [← hu]
                obtain ⟨D, hDe⟩ : ∃ z, z = v.heap.size := ⟨_, rfl⟩
                rw [← hDe] at hD0 hD1 hDf0 hDf1 nED ⊢
                have zD : D < u.heap.size := by omega
                have yD : wB.heap.size ≤ D := by omega
                clear hu b eu fu hDe
                refine hK.out _ _ ?_ (fun hHeld => ?_)
                · exact ⟨p0, p1⟩
                clear hK K
                try simp only [List.getElem_toArray, List.getElem_cons_succ, List.getElem_cons_zero, Act.put, List.setIfInBounds_toArray, List.set_cons_zero, List.set_cons_succ]
                rw [← unhide hGo]
                exact goTo (N_6_10 E D u hbw p0 p1 hE zE yE hD0 hD1 hDf0 hDf1 zD yD nED) (by kernel_rfl) (by kernel_rfl) (by rw [unhide ha0]; kernel_rfl)
            have N_10 : ∀ (D : Nat) (v : World) (hbw : Hid (Below wB.heap.size wB v)) (p0 : v.cell? ⟨w1.heap.size, 0, none⟩ = some (.int .i64 (m : Int))) (p1 : v.cell? ⟨w1.heap.size, 1, none⟩ = some (.slice a Lc.length cp)) (hD0 : v.cell? ⟨D, 0, none⟩ = some (.int .i64 0)) (hD1 : v.cell? ⟨D, 1, none⟩ = some (.slice none 0 0)) (hDf0 : v.frozen? ⟨D, 0, none⟩ = false) (hDf1 : v.frozen? ⟨D, 1, none⟩ = false) (zD : D < v.heap.size) (yD : wB.heap.size ≤ D), Go 7 #[true, true, false, true, true, false, false, false, false, false, true, false] (a0.put (some 7) (.pointer (some ⟨D, 0, none⟩))) v := by
              intro D v hbw p0 p1 hD0 hD1 hDf0 hDf1 zD yD
              rw [unhide hGo, unhide ha0]
              try simp only [List.getElem_toArray, List.getElem_cons_succ, List.getElem_cons_zero, Act.put, List.setIfInBounds_toArray, List.set_cons_zero, List.set_cons_succ]
              have hHeld : v.cell? ⟨w1.heap.size, 0, none⟩ = some (.int .i64 (m : Int)) ∧ v.cell? ⟨w1.heap.size, 1, none⟩ = some (.slice a Lc.length cp) := ⟨p0, p1⟩
              refine wpAnyH_ready (rs := [2, 6]) (by kernel_rfl) (by simp) ?_
              refine AllReadyH.cons rfl (fun K hK => ?_) (AllReadyH.cons rfl (fun K hK => ?_) AllReadyH.nil)
              · go_simp
                obtain ⟨u, hu⟩ : ∃ z, z = v.alloc (.cells #[] 30) := ⟨_, rfl⟩
                have b : Below v.heap.size v u := by rw [hu]; exact (Below.refl _ _).alloc (Nat.le_refl _) _
                have eu : v.heap.size < u.heap.size := by rw [hu]; simp
                have fu : wB.heap.size ≤ v.heap.size := (unhide hbw).size
                have hD0 := cell_later b hD0
                have hD1 := cell_later b hD1
                have hDf0 := (b.frozen (p := ⟨D, 0, none⟩) zD).trans hDf0
                have hDf1 := (b.frozen (p := ⟨D, 1, none⟩) zD).trans hDf1
                have zD : D < u.heap.size := Nat.lt_of_lt_of_le zD b.size
                have hbw := hide ((unhide hbw).trans (b.mono (unhide hbw).size))
                have p0 := cell_later b p0
                have p1 := cell_later b p1
                have hX : Hid (u.heap[v.heap.size]? = some (.cells #[] 30 (0, 0))) := by show _ = _; rw [hu]; exact alloc_at rfl
                have nXD : v.heap.size ≠ D := by omega
                rw [← hu]
                obtain ⟨X, hXe⟩ : ∃ z, z = v.heap.size := ⟨_, rfl⟩
                rw [← hXe] at hX nXD ⊢
                have zX : X < u.heap.size := by omega
                have yX : wB.heap.size ≤ X := by omega
                clear hu b eu fu hXe
                refine hK.out _ _ ?_ (fun hHeld => ?_)
                · exact ⟨p0, p1⟩
                clear hK K
                try simp only [List.getElem_toArray, List.getElem_cons_succ, List.getElem_cons_zero, Act.put, List.setIfInBounds_toArray, List.set_cons_zero, List.set_cons_succ]
                rw [← unhide hGo]
                exact goTo (N_2_10 X D u hbw p0 p1 hX zX yX hD0 hD1 hDf0 hDf1 zD yD nXD) (by kernel_rfl) (by kernel_rfl) (by rw [unhide ha0]; kernel_rfl)
              · go_simp
                obtain ⟨u, hu⟩ : ∃ z, z = v.alloc (.cells #[.int .i64 0] 3) := ⟨_, rfl⟩
                have b : Below v.heap.size v u := by rw [hu]; exact (Below.refl _ _).alloc (Nat.le_refl _) _
                have eu : v.heap.size < u.heap.size := by rw [hu]; simp
                have fu : wB.heap.size ≤ v.heap.size := (unhide hbw).size
                have hD0 := cell_later b hD0
                have hD1 := cell_later b hD1
                have hDf0 := (b.frozen (p := ⟨D, 0, none⟩) zD).trans hDf0
                have hDf1 := (b.frozen (p := ⟨D, 1, none⟩) zD).trans hDf1
                have zD : D < u.heap.size := Nat.lt_of_lt_of_le zD b.size
                have hbw := hide ((unhide hbw).trans (b.mono (unhide hbw).size))
                have p0 := cell_later b p0
                have p1 := cell_later b p1
                have hE : Hid (Clz.Ok (⟨v.heap.size, 1, [0]⟩ : Clz) u 0) := by show Clz.Ok _ _ _; rw [hu]; exact clz_lit v 0 #[.int .i64 0] [0] rfl (by omega) (by simp) (unhide hLit)
                have nED : v.heap.size ≠ D := by omega
                rw [← hu]
                obtain ⟨E, hEe⟩ : ∃ z, z = v.heap.size := ⟨_, rfl⟩
                rw [← hEe] at hE nED ⊢
                have zE : E < u.heap.size := by omega
                have yE : wB.heap.size ≤ E := by omega
                clear hu b eu fu hEe
                refine hK.out _ _ ?_ (fun hHeld => ?_)
                · exact ⟨p0, p1⟩
                clear hK K
                try simp only [List.getElem_toArray, List.getElem_cons_succ, List.getElem_cons_zero, Act.put, List.setIfInBounds_toArray, List.set_cons_zero, List.set_cons_succ]
                rw [← unhide hGo]
                exact goTo (N_6_10 E D u hbw p0 p1 hE zE yE hD0 hD1 hDf0 hDf1 zD yD nED) (by kernel_rfl) (by kernel_rfl) (by rw [unhide ha0]; kernel_rfl)
            have N_0 : ∀ (v : World) (hbw : Hid (Below wB.heap.size wB v)) (p0 : v.cell? ⟨w1.heap.size, 0, none⟩ = some (.int .i64 (m : Int))) (p1 : v.cell? ⟨w1.heap.size, 1, none⟩ = some (.slice a Lc.length cp)), Go 8 #[true, true, false, true, true, false, false, false, false, false, false, false] a0 v := by
              intro v hbw p0 p1
              rw [unhide hGo, unhide ha0]
              try simp only [List.getElem_toArray, List.getElem_cons_succ, List.getElem_cons_zero, Act.put, List.setIfInBounds_toArray, List.set_cons_zero, List.set_cons_succ]
              have hHeld : v.cell? ⟨w1.heap.size, 0, none⟩ = some (.int .i64 (m : Int)) ∧ v.cell? ⟨w1.heap.size, 1, none⟩ = some (.slice a Lc.length cp) := ⟨p0, p1⟩
              refine wpAnyH_ready (rs := [2, 6, 10]) (by kernel_rfl) (by simp) ?_
              refine AllReadyH.cons rfl (fun K hK => ?_) (AllReadyH.cons rfl (fun K hK => ?_) (AllReadyH.cons rfl (fun K hK => ?_) AllReadyH.nil))
              · go_simp
                obtain ⟨u, hu⟩ : ∃ z, z = v.alloc (.cells #[] 30) := ⟨_, rfl⟩
                have b : Below v.heap.size v u := by rw [hu]; exact (Below.refl _ _).alloc (Nat.le_refl _) _
                have eu : v.heap.size < u.heap.size := by rw [hu]; simp
                have fu : wB.heap.size ≤ v.heap.size := (unhide hbw).size
                have hbw := hide ((unhide hbw).trans (b.mono (unhide hbw).size))
                have p0 := cell_later b p0
                have p1 := cell_later b p1
                have hX : Hid (u.heap[v.heap.size]? = some (.cells #[] 30 (0, 0))) := by show _ = _; rw [hu]; exact alloc_at rfl
                rw [← hu]
                obtain ⟨X, hXe⟩ : ∃ z, z = v.heap.size := ⟨_, rfl⟩
                rw [← hXe] at hX ⊢
                have zX : X < u.heap.size := by omega
                have yX : wB.heap.size ≤ X := by omega
                clear hu b eu fu hXe
                refine hK.out _ _ ?_ (fun hHeld => ?_)
                · exact ⟨p0, p1⟩
                clear hK K
                try simp only [List.getElem_toArray, List.getElem_cons_succ, List.getElem_cons_zero, Act.put, List.setIfInBounds_toArray, List.set_cons_zero, List.set_cons_succ]
                rw [← unhide hGo]
                exact goTo (N_2 X u hbw p0 p1 hX zX yX) (by kernel_rfl) (by kernel_rfl) (by rw [unhide ha0]; kernel_rfl)
              · go_simp
                obtain ⟨u, hu⟩ : ∃ z, z = v.alloc (.cells #[.int .i64 0] 3) := ⟨_, rfl⟩
                have b : Below v.heap.size v u := by rw [hu]; exact (Below.refl _ _).alloc (Nat.le_refl _) _
                have eu : v.heap.size < u.heap.size := by rw [hu]; simp
                have fu : wB.heap.size ≤ v.heap.size := (unhide hbw).size
                have hbw := hide ((unhide hbw).trans (b.mono (unhide hbw).size))
                have p0 := cell_later b p0
                have p1 := cell_later b p1
                have hE : Hid (Clz.Ok (⟨v.heap.size, 1, [0]⟩ : Clz) u 0) := by show Clz.Ok _ _ _; rw [hu]; exact clz_lit v 0 #[.int .i64 0] [0] rfl (by omega) (by simp) (unhide hLit)
                rw [← hu]
                obtain ⟨E, hEe⟩ : ∃ z, z = v.heap.size := ⟨_, rfl⟩
                rw [← hEe] at hE ⊢
                have zE : E < u.heap.size := by omega
                have yE : wB.heap.size ≤ E := by omega
                clear hu b eu fu hEe
                refine hK.out _ _ ?_ (fun hHeld => ?_)
                · exact ⟨p0, p1⟩
                clear hK K
                try simp only [List.getElem_toArray, List.getElem_cons_succ, List.getElem_cons_zero, Act.put, List.setIfInBounds_toArray, List.set_cons_zero, List.set_cons_succ]
                rw [← unhide hGo]
                exact goTo (N_6 E u hbw p0 p1 hE zE yE) (by kernel_rfl) (by kernel_rfl) (by rw [unhide ha0]; kernel_rfl)
              · go_simp
                obtain ⟨u, hu⟩ : ∃ z, z = v.alloc (.cells #[.int .i64 0, .slice none 0 0] 25) := ⟨_, rfl⟩
                have b : Below v.heap.size v u := by rw [hu]; exact (Below.refl _ _).alloc (Nat.le_refl _) _
                have eu : v.heap.size < u.heap.size := by rw [hu]; simp
                have fu : wB.heap.size ≤ v.heap.size := (unhide hbw).size
                have hbw := hide ((unhide hbw).trans (b.mono (unhide hbw).size))
                have p0 := cell_later b p0
                have p1 := cell_later b p1
                have hD0 : u.cell? ⟨v.heap.size, 0, none⟩ = some (.int .i64 0) := by rw [hu]; simp [go_sem]
                have hD1 : u.cell? ⟨v.heap.size, 1, none⟩ = some (.slice none 0 0) := by rw [hu]; simp [go_sem]
                have hDf0 : u.frozen? ⟨v.heap.size, 0, none⟩ = false := by rw [hu]; simp [go_sem]
                have hDf1 : u.frozen? ⟨v.heap.size, 1, none⟩ = false := by rw [hu]; simp [go_sem]
                rw [← hu]
                obtain ⟨D, hDe⟩ : ∃ z, z = v.heap.size := ⟨_, rfl⟩
                rw [← hDe] at hD0 hD1 hDf0 hDf1 ⊢
                have zD : D < u.heap.size := by omega
                have yD : wB.heap.size ≤ D := by omega
                clear hu b eu fu hDe
                refine hK.out _ _ ?_ (fun hHeld => ?_)
                · exact ⟨p0, p1⟩
                clear hK K
                try simp only [List.getElem_toArray, List.getElem_cons_succ, List.getElem_cons_zero, Act.put, List.setIfInBounds_toArray, List.set_cons_zero, List.set_cons_succ]
                rw [← unhide hGo]
                exact goTo (N_10 D u hbw p0 p1 hD0 hD1 hDf0 hDf1 zD yD) (by kernel_rfl) (by kernel_rfl) (by rw [unhide ha0]; kernel_rfl)
            exact goTo (N_0 wd hbw p0 p1) (by kernel_rfl) (by kernel_rfl) rfl
          case rest =>
            obtain ⟨De, ge, ce, ee, rfl, de0, de1, Cx, bx⟩ := hcut
            obtain ⟨wE, rfl⟩ : ∃ z, z = wc := ⟨_, rfl⟩
            replace bw := bw.trans (bx.mono bw.size)
            replace BLw := BLw.trans (bx.mono BLw.size)
            replace p0 := (bw.cell (p := ⟨w1.heap.size, 0, none⟩) lB).trans (unhide HP0)
            replace p1 := (bw.cell (p := ⟨w1.heap.size, 1, none⟩) lB).trans (unhide HP1)
            replace da0 := cell_later bx da0
            replace da1 := cell_later bx da1
            replace HA := hide ((unhide HA).later bx)
            replace db0 := cell_later bx db0
            replace db1 := cell_later bx db1
            replace HB := hide ((unhide HB).later bx)
            have HE := hide Cx
            clear Cx bx
            go_wp2_with fail
            go_cut [8] (fun s8 wx => ∃ (D g2 c2 e1 : Nat), s8 = .pointer (some ⟨D, 0, none⟩) ∧ wx.cell? ⟨D, 0, none⟩ = some (.int .i64 (m : Int)) ∧ wx.cell? ⟨D, 1, none⟩ = some (.slice (some ⟨g2, 0, none⟩) (Lc.length + 1) c2) ∧ ClzAt wx 0 (.slice (some ⟨g2, 0, none⟩) (Lc.length + 1) c2) (Lc ++ [⟨e1, 1, [-1]⟩]) ∧ Below wE.heap.size wE wx)
            case first =>
              clear BLw BL FitC HP0 HP1 HCB
              clear da0 da1 HA db0 db1 HB de0 de1 HE
              refine wp_region_held_drew (S := fun w' => w'.cell? ⟨w1.heap.size, 0, none⟩ = some (.int .i64 (m : Int)) ∧ w'.cell? ⟨w1.heap.size, 1, none⟩ = some (.slice a Lc.length cp)) (by kernel_rfl) ?_ (fun hHeld => ?_)
              · exact ⟨p0, p1⟩
              have HC0 := hide ((unhide HC).later bw).low
              have wlr : w1.heap.size < wE.heap.size := Nat.lt_of_lt_of_le lB bw.size
              have wpos : 0 < wE.heap.size := by omega
              have hLit : Hid (∀ x, x ∈ ([-1] : List Int) → W64 x) := by intro x hx; simp at hx; unfold W64; omega
              obtain ⟨wd, hwd⟩ : ∃ x, x = wE.drew := ⟨_, rfl⟩
              have hbw : Hid (Below wE.heap.size wE wd) := by show _; rw [hwd]; exact (Below.refl _ _).drew
              have p0 : wd.cell? ⟨w1.heap.size, 0, none⟩ = some (.int .i64 (m : Int)) := by rw [hwd]; exact p0
              have p1 : wd.cell? ⟨w1.heap.size, 1, none⟩ = some (.slice a Lc.length cp) := by rw [hwd]; exact p1
              rw [← hwd]
              (try rw [← hwd] at hHeld)
              clear hwd
              refine wpAnyH_take (i := 0) (v := ?_) rfl (by kernel_rfl) (by kernel_rfl) (by kernel_rfl) (fun _ _ _ h => h) (Or.inl ⟨by rfl, ?_⟩) (by assumption) ?_
              rotate_left
              · (intro w hSw; (try dsimp only at hSw); first | (go_simp; done) | (go_simp; with_reducible rfl))
              try simp only [List.getElem_toArray, List.getElem_cons_succ, List.getElem_cons_zero, Act.put, List.setIfInBounds_toArray, List.set_cons_zero, List.set_cons_succ]
              refine wpAnyH_take (i := 1) (v := ?_) rfl (by kernel_rfl) (by kernel_rfl) (by kernel_rfl) (fun _ _ _ h => h) (Or.inl ⟨by rfl, ?_⟩) (by assumption) ?_
              rotate_left
              · (intro w hSw; (try dsimp only at hSw); first | (go_simp; done) | (go_simp; with_reducible rfl))
              try simp only [List.getElem_toArray, List.getElem_cons_succ, List.getElem_cons_zero, Act.put, List.setIfInBounds_toArray, List.set_cons_zero, List.set_cons_succ]
              refine wpAnyH_take (i := 3) (v := ?_) rfl (by kernel_rfl) (by kernel_rfl) (by kernel_rfl) (fun _ _ _ h => h) (Or.inl ⟨by rfl, ?_⟩) (by assumption) ?_
              rotate_left
              · (intro w hSw; (try dsimp only at hSw); first | (go_simp; done) | (go_simp; with_reducible rfl))
              try simp only [List.getElem_toArray, List.getElem_cons_succ, List.getElem_cons_zero, Act.put, List.setIfInBounds_toArray, List.set_cons_zero, List.set_cons_succ]
              refine wpAnyH_take (i := 4) (v := ?_) rfl (by kernel_rfl) (by kernel_rfl) (by kernel_rfl) (fun _ _ _ h => h) (Or.inl ⟨by rfl, ?_⟩) (by assumption) ?_
              rotate_left
              · (intro w hSw; (try dsimp only at hSw); first | (go_simp; done) | (go_simp; with_reducible rfl))
              try simp only [List.getElem_toArray, List.getElem_cons_succ, List.getElem_cons_zero, Act.put, List.setIfInBounds_toArray, List.set_cons_zero, List.set_cons_succ]
              refine withGo (fun Go a0 hGo ha0 => ?_)
              have N_2_5_6_7_8_10 : ∀ (X g5 c5 E T g8 c8 D : Nat) (v : World) (hbw : Hid (Below wE.heap.size wE v)) (p0 : v.cell? ⟨w1.heap.size, 0, none⟩ = some (.int .i64 (m : Int))) (p1 : v.cell? ⟨w1.heap.size, 1, none⟩ = some (.slice a Lc.length cp)) (hE : Hid (Clz.Ok (⟨E, 1, [-1]⟩ : Clz) v 0)) (zE : E < v.heap.size) (yE : wE.heap.size ≤ E) (hF : Hid (v.ownsRow wE.heap.size 30 1 (.slice (some ⟨g8, 0, none⟩) (Lc.length + 1) c8) (Lc.length + 1) (scells (Lc ++ [(⟨E, 1, [-1]⟩ : Clz)])))) (zF : g8 < v.heap.size) (yF : wE.heap.size ≤ g8) (hD0 : v.cell? ⟨D, 0, none⟩ = some (.int .i64 0)) (hD1 : v.cell? ⟨D, 1, none⟩ = some (.slice none 0 0)) (hDf0 : v.frozen? ⟨D, 0, none⟩ = false) (hDf1 : v.frozen? ⟨D, 1, none⟩ = false) (zD : D < v.heap.size) (yD : wE.heap.size ≤ D) (nEF : E ≠ g8) (nED : E ≠ D) (nFD : g8 ≠ D), Go 1 #[true, true, true, true, true, true, true, true, true, true, true, false] (((((((a0.put (some 89) (.slice (some ⟨X, 0, none⟩) 0 0)).put (some 92) (.slice (some ⟨g5, 0, none⟩) Lc.length c5)).put (some 93) (.slice (some ⟨E, 0, none⟩) 1 1)).put (some 94) (.slice (some ⟨T, 0, none⟩) 1 1)).put (some 95) (.slice (some ⟨g8, 0, none⟩) (Lc.length + 1) c8)).put (some 8) (.pointer (some ⟨D, 0, none⟩))).put (some 96) (.agg #[.int .i64 (m : Int), .slice (some ⟨g8, 0, none⟩) (Lc.length + 1) c8])) v := by
                intro X g5 c5 E T g8 c8 D v hbw p0 p1 hE zE yE hF zF yF hD0 hD1 hDf0 hDf1 zD yD nEF nED nFD
                rw [unhide hGo, unhide ha0]
                try simp only [List.getElem_toArray, List.getElem_cons_succ, List.getElem_cons_zero, Act.put, List.setIfInBounds_toArray, List.set_cons_zero, List.set_cons_succ]
                have hHeld : v.cell? ⟨w1.heap.size, 0, none⟩ = some (.int .i64 (m : Int)) ∧ v.cell? ⟨w1.heap.size, 1, none⟩ = some (.slice a Lc.length cp) := ⟨p0, p1⟩
                refine wpAnyH_ready (rs := [11]) (by kernel_rfl) (by simp) ?_
                refine AllReadyH.cons rfl (fun K hK => ?_) AllReadyH.nil
                go_simp
                refine hK.out _ _ ?_ (fun hHeld => ?_)
                · exact ⟨by rw [World.cell?_setCell_other _ _ _ _ (by simp <;> omega), World.cell?_setCell_other _ _ _ _ (by simp <;> omega)]; exact p0, by rw [World.cell?_setCell_other _ _ _ _ (by simp <;> omega), World.cell?_setCell_other _ _ _ _ (by simp <;> omega)]; exact p1⟩
                clear hK K
                try simp only [List.getElem_toArray, List.getElem_cons_succ, List.getElem_cons_zero, Act.put, List.setIfInBounds_toArray, List.set_cons_zero, List.set_cons_succ]
                refine wpAnyH_done (by kernel_rfl) ?_ _
                have CF : ClzAt v 0 (.slice (some ⟨g8, 0, none⟩) (Lc.length + 1) c8) (Lc ++ [(⟨E, 1, [-1]⟩ : Clz)]) := own_clz (unhide hF) (by omega) (fun q hq => by
                  rcases List.mem_append.1 hq with h | h
                  · exact ((unhide HC0).1 q h).later (unhide hbw)
                  · simp at h; subst h; exact unhide hE)
                have CG : ∀ q, q ∈ Lc ++ [(⟨E, 1, [-1]⟩ : Clz)] → q.g ≠ D := fun q hq => by
                  rcases List.mem_append.1 hq with h | h
                  · have := ((unhide HC0).1 q h).2.1; omega
                  · simp at h; subst h; exact nED
                go_wp2_with fail
                go_meet
                exact ⟨D, g8, c8, E, rfl, by rw [World.cell?_setCell_other _ _ _ _ (by simp)]; exact World.cell?_setCell_same _ _ _ hD0, World.cell?_setCell_same _ _ _ (by rw [World.cell?_setCell_other _ _ _ _ (by simp)]; exact hD1), (CF.set CG (by simp [Value.ownBlock]; omega)).set CG (by simp [Value.ownBlock]; omega), (((unhide hbw).setCell yD _).setCell yD _)⟩
              have N_2_5_6_7_8 : ∀ (X g5 c5 E T g8 c8 : Nat) (v : World) (hbw : Hid (Below wE.heap.size wE v)) (p0 : v.cell? ⟨w1.heap.size, 0, none⟩ = some (.int .i64 (m : Int))) (p1 : v.cell? ⟨w1.heap.size, 1, none⟩ = some (.slice a Lc.length cp)) (hE : Hid (Clz.Ok (⟨E, 1, [-1]⟩ : Clz) v 0)) (zE : E < v.heap.size) (yE : wE.heap.size ≤ E) (hF : Hid (v.ownsRow wE.heap.size 30 1 (.slice (some ⟨g8, 0, none⟩) (Lc.length + 1) c8) (Lc.length + 1) (scells (Lc ++ [(⟨E, 1, [-1]⟩ : Clz)])))) (zF : g8 < v.heap.size) (yF : wE.heap.size ≤ g8) (nEF : E ≠ g8), Go 2 #[true, true, true, true, true, true, true, true, true, true, false, false] ((((((a0.put (some 89) (.slice (some ⟨X, 0, none⟩) 0 0)).put (some 92) (.slice (some ⟨g5, 0, none⟩) Lc.length c5)).put (some 93) (.slice (some ⟨E, 0, none⟩) 1 1)).put (some 94) (.slice (some ⟨T, 0, none⟩) 1 1)).put (some 95) (.slice (some ⟨g8, 0, none⟩) (Lc.length + 1) c8)).put (some 96) (.agg #[.int .i64 (m : Int), .slice (some ⟨g8, 0, none⟩) (Lc.length + 1) c8])) v := by
                intro X g5 c5 E T g8 c8 v hbw p0 p1 hE zE yE hF zF yF nEF
                rw [unhide hGo, unhide ha0]
                try simp only [List.getElem_toArray, List.getElem_cons_succ, List.getElem_cons_zero, Act.put, List.setIfInBounds_toArray, List.set_cons_zero, List.set_cons_succ]
                have hHeld : v.cell? ⟨w1.heap.size, 0, none⟩ = some (.int .i64 (m : Int)) ∧ v.cell? ⟨w1.heap.size, 1, none⟩ = some (.slice a Lc.length cp) := ⟨p0, p1⟩
                refine wpAnyH_ready (rs := [10]) (by kernel_rfl) (by simp) ?_
                refine AllReadyH.cons rfl (fun K hK => ?_) AllReadyH.nil
                go_simp
                obtain ⟨u, hu⟩ : ∃ z, z = v.alloc (.cells #[.int .i64 0, .slice none 0 0] 25) := ⟨_, rfl⟩
                have b : Below v.heap.size v u := by rw [hu]; exact (Below.refl _ _).alloc (Nat.le_refl _) _
                have eu : v.heap.size < u.heap.size := by rw [hu]; simp
                have fu : wE.heap.size ≤ v.heap.size := (unhide hbw).size
                have hE := hide ((unhide hE).later b)
                have zE : E < u.heap.size := Nat.lt_of_lt_of_le zE b.size
                have hF := hide (World.ownsRow.kept (w' := u) (unhide hF) (grown_below b) (by simp [Value.ownBlock]))
                have zF : g8 < u.heap.size := Nat.lt_of_lt_of_le zF b.size
                have hbw := hide ((unhide hbw).trans (b.mono (unhide hbw).size))
                have p0 := cell_later b p0
                have p1 := cell_later b p1
                have hD0 : u.cell? ⟨v.heap.size, 0, none⟩ = some (.int .i64 0) := by rw [hu]; simp [go_sem]
                have hD1 : u.cell? ⟨v.heap.size, 1, none⟩ = some (.slice none 0 0) := by rw [hu]; simp [go_sem]
                have hDf0 : u.frozen? ⟨v.heap.size, 0, none⟩ = false := by rw [hu]; simp [go_sem]
                have hDf1 : u.frozen? ⟨v.heap.size, 1, none⟩ = false := by rw [hu]; simp [go_sem]
                have nED : E ≠ v.heap.size := by omega
                have nFD : g8 ≠ v.heap.size := by omega
                rw [← hu]
                obtain ⟨D, hDe⟩ : ∃ z, z = v.heap.size := ⟨_, rfl⟩
                rw [← hDe] at hD0 hD1 hDf0 hDf1 nED nFD ⊢
                have zD : D < u.heap.size := by omega
                have yD : wE.heap.size ≤ D := by omega
                clear hu b eu fu hDe
                refine hK.out _ _ ?_ (fun hHeld => ?_)
                · exact ⟨p0, p1⟩
                clear hK K
                try simp only [List.getElem_toArray, List.getElem_cons_succ, List.getElem_cons_zero, Act.put, List.setIfInBounds_toArray, List.set_cons_zero, List.set_cons_succ]
                rw [← unhide hGo]
                exact goTo (N_2_5_6_7_8_10 X g5 c5 E T g8 c8 D u hbw p0 p1 hE zE yE hF zF yF hD0 hD1 hDf0 hDf1 zD yD nEF nED nFD) (by kernel_rfl) (by kernel_rfl) (by rw [unhide ha0]; kernel_rfl)
              have N_2_5_6_7_10 : ∀ (X g5 c5 E T D : Nat) (v : World) (hbw : Hid (Below wE.heap.size wE v)) (p0 : v.cell? ⟨w1.heap.size, 0, none⟩ = some (.int .i64 (m : Int))) (p1 : v.cell? ⟨w1.heap.size, 1, none⟩ = some (.slice a Lc.length cp)) (hO : Hid (v.ownsRow wE.heap.size 30 1 (.slice (some ⟨g5, 0, none⟩) Lc.length c5) Lc.length (scells Lc))) (zO : g5 < v.heap.size) (yO : wE.heap.size ≤ g5) (hE : Hid (Clz.Ok (⟨E, 1, [-1]⟩ : Clz) v 0)) (zE : E < v.heap.size) (yE : wE.heap.size ≤ E) (hT : v.cell? ⟨T, 0, none⟩ = some (.slice (some ⟨E, 0, none⟩) 1 1)) (zT : T < v.heap.size) (yT : wE.heap.size ≤ T) (hD0 : v.cell? ⟨D, 0, none⟩ = some (.int .i64 0)) (hD1 : v.cell? ⟨D, 1, none⟩ = some (.slice none 0 0)) (hDf0 : v.frozen? ⟨D, 0, none⟩ = false) (hDf1 : v.frozen? ⟨D, 1, none⟩ = false) (zD : D < v.heap.size) (yD : wE.heap.size ≤ D) (nOE : g5 ≠ E) (nOT : g5 ≠ T) (nOD : g5 ≠ D) (nET : E ≠ T) (nED : E ≠ D) (nTD : T ≠ D), Go 3 #[true, true, true, true, true, true, true, true, false, false, true, false] (((((a0.put (some 89) (.slice (some ⟨X, 0, none⟩) 0 0)).put (some 92) (.slice (some ⟨g5, 0, none⟩) Lc.length c5)).put (some 93) (.slice (some ⟨E, 0, none⟩) 1 1)).put (some 94) (.slice (some ⟨T, 0, none⟩) 1 1)).put (some 8) (.pointer (some ⟨D, 0, none⟩))) v := by
                intro X g5 c5 E T D v hbw p0 p1 hO zO yO hE zE yE hT zT yT hD0 hD1 hDf0 hDf1 zD yD nOE nOT nOD nET nED nTD
                rw [unhide hGo, unhide ha0]
                try simp only [List.getElem_toArray, List.getElem_cons_succ, List.getElem_cons_zero, Act.put, List.setIfInBounds_toArray, List.set_cons_zero, List.set_cons_succ]
                have hHeld : v.cell? ⟨w1.heap.size, 0, none⟩ = some (.int .i64 (m : Int)) ∧ v.cell? ⟨w1.heap.size, 1, none⟩ = some (.slice a Lc.length cp) := ⟨p0, p1⟩
                refine wpAnyH_ready (rs := [8]) (by kernel_rfl) (by simp) ?_
                refine AllReadyH.cons rfl (fun K hK => ?_) AllReadyH.nil
                apply step_clz_one (Ls := Lc) (q := (⟨E, 1, [-1]⟩ : Clz)) (base := wE.heap.size)
                case hgd => rfl
                case ho => rfl
                case hty => rfl
                case hs => rfl
                case hown => exact unhide hO
                case hbase => exact (unhide hbw).size
                case hx => rfl
                case hT => exact hT
                case hl => omega
                case' h => intro g8 c8 u o8 gr8 at8 lt8
                have mv8 : Mov g5 _ u := mov_of_grown gr8
                have hE := hide ((unhide hE).grown (grown_mov mv8) (by simp only [ne_eq, Option.some.injEq]; omega))
                have zE : E < u.heap.size := Nat.lt_of_lt_of_le zE mv8.size
                have hD0 := mv8.cell hD0 (by simp only; omega)
                have hD1 := mv8.cell hD1 (by simp only; omega)
                have hDf0 := (World.frozen?_of_block (w := v) (a := ⟨D, 0, none⟩) (mv8.2.2.2.2 D zD (by omega))).trans hDf0
                have hDf1 := (World.frozen?_of_block (w := v) (a := ⟨D, 1, none⟩) (mv8.2.2.2.2 D zD (by omega))).trans hDf1
                have zD : D < u.heap.size := Nat.lt_of_lt_of_le zD mv8.size
                have p0 := mv8.cell p0 (by simp only; omega)
                have p1 := mv8.cell p1 (by simp only; omega)
                have hbw := hide ((unhide hbw).trans (mv8.below yO (unhide hbw).size))
                have hF := hide o8
                have zF := lt8
                have yF : wE.heap.size ≤ g8 := own_base o8
                have nEF : E ≠ g8 := by rcases at8 with e | e <;> omega
                have nFD : g8 ≠ D := by rcases at8 with e | e <;> omega
                clear o8 gr8 at8 lt8 mv8
                refine hK.out _ _ ?_ (fun hHeld => ?_)
                · exact ⟨p0, p1⟩
                clear hK K
                try simp only [List.getElem_toArray, List.getElem_cons_succ, List.getElem_cons_zero, Act.put, List.setIfInBounds_toArray, List.set_cons_zero, List.set_cons_succ]
                refine wpAnyH_take (i := 9) (v := ?_) rfl (by kernel_rfl) (by kernel_rfl) (by kernel_rfl) (fun _ _ _ h => h) (Or.inl ⟨by rfl, ?_⟩) (by assumption) ?_
                rotate_left
                · (intro w hSw; (try dsimp only at hSw); first | (go_simp; done) | (go_simp; with_reducible rfl))
                try simp only [List.getElem_toArray, List.getElem_cons_succ, List.getElem_cons_zero, Act.put, List.setIfInBounds_toArray, List.set_cons_zero, List.set_cons_succ]
                rw [← unhide hGo]
                exact goTo (N_2_5_6_7_8_10 X g5 c5 E T g8 c8 D u hbw p0 p1 hE zE yE hF zF yF hD0 hD1 hDf0 hDf1 zD yD nEF nED nFD) (by kernel_rfl) (by kernel_rfl) (by rw [unhide ha0]; kernel_rfl)
              have N_2_5_6_7 : ∀ (X g5 c5 E T : Nat) (v : World) (hbw : Hid (Below wE.heap.size wE v)) (p0 : v.cell? ⟨w1.heap.size, 0, none⟩ = some (.int .i64 (m : Int))) (p1 : v.cell? ⟨w1.heap.size, 1, none⟩ = some (.slice a Lc.length cp)) (hO : Hid (v.ownsRow wE.heap.size 30 1 (.slice (some ⟨g5, 0, none⟩) Lc.length c5) Lc.length (scells Lc))) (zO : g5 < v.heap.size) (yO : wE.heap.size ≤ g5) (hE : Hid (Clz.Ok (⟨E, 1, [-1]⟩ : Clz) v 0)) (zE : E < v.heap.size) (yE : wE.heap.size ≤ E) (hT : v.cell? ⟨T, 0, none⟩ = some (.slice (some ⟨E, 0, none⟩) 1 1)) (zT : T < v.heap.size) (yT : wE.heap.size ≤ T) (nOE : g5 ≠ E) (nOT : g5 ≠ T) (nET : E ≠ T), Go 4 #[true, true, true, true, true, true, true, true, false, false, false, false] ((((a0.put (some 89) (.slice (some ⟨X, 0, none⟩) 0 0)).put (some 92) (.slice (some ⟨g5, 0, none⟩) Lc.length c5)).put (some 93) (.slice (some ⟨E, 0, none⟩) 1 1)).put (some 94) (.slice (some ⟨T, 0, none⟩) 1 1)) v := by
                intro X g5 c5 E T v hbw p0 p1 hO zO yO hE zE yE hT zT yT nOE nOT nET
                rw [unhide hGo, unhide ha0]
                try simp only [List.getElem_toArray, List.getElem_cons_succ, List.getElem_cons_zero, Act.put, List.setIfInBounds_toArray, List.set_cons_zero, List.set_cons_succ]
                have hHeld : v.cell? ⟨w1.heap.size, 0, none⟩ = some (.int .i64 (m : Int)) ∧ v.cell? ⟨w1.heap.size, 1, none⟩ = some (.slice a Lc.length cp) := ⟨p0, p1⟩
                refine wpAnyH_ready (rs := [8, 10]) (by kernel_rfl) (by simp) ?_
                refine AllReadyH.cons rfl (fun K hK => ?_) (AllReadyH.cons rfl (fun K hK => ?_) AllReadyH.nil)
                · apply step_clz_one (Ls := Lc) (q := (⟨E, 1, [-1]⟩ : Clz)) (base := wE.heap.size)
                  case hgd => rfl
                  case ho => rfl
                  case hty => rfl
                  case hs => rfl
                  case hown => exact unhide hO
                  case hbase => exact (unhide hbw).size
                  case hx => rfl
                  case hT => exact hT
                  case hl => omega
                  case' h => intro g8 c8 u o8 gr8 at8 lt8
                  have mv8 : Mov g5 _ u := mov_of_grown gr8
                  have hE := hide ((unhide hE).grown (grown_mov mv8) (by simp only [ne_eq, Option.some.injEq]; omega))
                  have zE : E < u.heap.size := Nat.lt_of_lt_of_le zE mv8.size
                  have p0 := mv8.cell p0 (by simp only; omega)
                  have p1 := mv8.cell p1 (by simp only; omega)
                  have hbw := hide ((unhide hbw).trans (mv8.below yO (unhide hbw).size))
                  have hF := hide o8
                  have zF := lt8
                  have yF : wE.heap.size ≤ g8 := own_base o8
                  have nEF : E ≠ g8 := by rcases at8 with e | e <;> omega
                  clear o8 gr8 at8 lt8 mv8
                  refine hK.out _ _ ?_ (fun hHeld => ?_)
                  · exact ⟨p0, p1⟩
                  clear hK K
                  try simp only [List.getElem_toArray, List.getElem_cons_succ, List.getElem_cons_zero, Act.put, List.setIfInBounds_toArray, List.set_cons_zero, List.set_cons_succ]
                  refine wpAnyH_take (i := 9) (v := ?_) rfl (by kernel_rfl) (by kernel_rfl) (by kernel_rfl) (fun _ _ _ h => h) (Or.inl ⟨by rfl, ?_⟩) (by assumption) ?_
                  rotate_left
                  · (intro w hSw; (try dsimp only at hSw); first | (go_simp; done) | (go_simp; with_reducible rfl))
                  try simp only [List.getElem_toArray, List.getElem_cons_succ, List.getElem_cons_zero, Act.put, List.setIfInBounds_toArray, List.set_cons_zero, List.set_cons_succ]
                  rw [← unhide hGo]
                  exact goTo (N_2_5_6_7_8 X g5 c5 E T g8 c8 u hbw p0 p1 hE zE yE hF zF yF nEF) (by kernel_rfl) (by kernel_rfl) (by rw [unhide ha0]; kernel_rfl)
                · go_simp
                  obtain ⟨u, hu⟩ : ∃ z, z = v.alloc (.cells #[.int .i64 0, .slice none 0 0] 25) := ⟨_, rfl⟩
                  have b : Below v.heap.size v u := by rw [hu]; exact (Below.refl _ _).alloc (Nat.le_refl _) _
                  have eu : v.heap.size < u.heap.size := by rw [hu]; simp
                  have fu : wE.heap.size ≤ v.heap.size := (unhide hbw).size
                  have hO := hide (World.ownsRow.kept (w' := u) (unhide hO) (grown_below b) (by simp [Value.ownBlock]))
                  have zO : g5 < u.heap.size := Nat.lt_of_lt_of_le zO b.size
                  have hE := hide ((unhide hE).later b)
                  have zE : E < u.heap.size := Nat.lt_of_lt_of_le zE b.size
                  have hT := cell_later b hT
                  have zT : T < u.heap.size := Nat.lt_of_lt_of_le zT b.size
                  have hbw := hide ((unhide hbw).trans (b.mono (unhide hbw).size))
                  have p0 := cell_later b p0
                  have p1 := cell_later b p1
                  have hD0 : u.cell? ⟨v.heap.size, 0, none⟩ = some (.int .i64 0) := by rw [hu]; simp [go_sem]
                  have hD1 : u.cell? ⟨v.heap.size, 1, none⟩ = some (.slice none 0 0) := by rw [hu]; simp [go_sem]
                  have hDf0 : u.frozen? ⟨v.heap.size, 0, none⟩ = false := by rw [hu]; simp [go_sem]
                  have hDf1 : u.frozen? ⟨v.heap.size, 1, none⟩ = false := by rw [hu]; simp [go_sem]
                  have nOD : g5 ≠ v.heap.size := by omega
                  have nED : E ≠ v.heap.size := by omega
                  have nTD : T ≠ v.heap.size := by omega
                  rw [← hu]
                  obtain ⟨D, hDe⟩ : ∃ z, z = v.heap.size := ⟨_, rfl⟩
                  rw [← hDe] at hD0 hD1 hDf0 hDf1 nOD nED nTD ⊢
                  have zD : D < u.heap.size := by omega
                  have yD : wE.heap.size ≤ D := by omega
                  clear hu b eu fu hDe
                  refine hK.out _ _ ?_ (fun hHeld => ?_)
                  · exact ⟨p0, p1⟩
                  clear hK K
                  try simp only [List.getElem_toArray, List.getElem_cons_succ, List.getElem_cons_zero, Act.put, List.setIfInBounds_toArray, List.set_cons_zero, List.set_cons_succ]
                  rw [← unhide hGo]
                  exact goTo (N_2_5_6_7_10 X g5 c5 E T D u hbw p0 p1 hO zO yO hE zE yE hT zT yT hD0 hD1 hDf0 hDf1 zD yD nOE nOT nOD nET nED nTD) (by kernel_rfl) (by kernel_rfl) (by rw [unhide ha0]; kernel_rfl)
              have N_2_5_6_10 : ∀ (X g5 c5 E D : Nat) (v : World) (hbw : Hid (Below wE.heap.size wE v)) (p0 : v.cell? ⟨w1.heap.size, 0, none⟩ = some (.int .i64 (m : Int))) (p1 : v.cell? ⟨w1.heap.size, 1, none⟩ = some (.slice a Lc.length cp)) (hO : Hid (v.ownsRow wE.heap.size 30 1 (.slice (some ⟨g5, 0, none⟩) Lc.length c5) Lc.length (scells Lc))) (zO : g5 < v.heap.size) (yO : wE.heap.size ≤ g5) (hE : Hid (Clz.Ok (⟨E, 1, [-1]⟩ : Clz) v 0)) (zE : E < v.heap.size) (yE : wE.heap.size ≤ E) (hD0 : v.cell? ⟨D, 0, none⟩ = some (.int .i64 0)) (hD1 : v.cell? ⟨D, 1, none⟩ = some (.slice none 0 0)) (hDf0 : v.frozen? ⟨D, 0, none⟩ = false) (hDf1 : v.frozen? ⟨D, 1, none⟩ = false) (zD : D < v.heap.size) (yD : wE.heap.size ≤ D) (nOE : g5 ≠ E) (nOD : g5 ≠ D) (nED : E ≠ D), Go 4 #[true, true, true, true, true, true, true, false, false, false, true, false] ((((a0.put (some 89) (.slice (some ⟨X, 0, none⟩) 0 0)).put (some 92) (.slice (some ⟨g5, 0, none⟩) Lc.length c5)).put (some 93) (.slice (some ⟨E, 0, none⟩) 1 1)).put (some 8) (.pointer (some ⟨D, 0, none⟩))) v := by
                intro X g5 c5 E D v hbw p0 p1 hO zO yO hE zE yE hD0 hD1 hDf0 hDf1 zD yD nOE nOD nED
                rw [unhide hGo, unhide ha0]
                try simp only [List.getElem_toArray, List.getElem_cons_succ, List.getElem_cons_zero, Act.put, List.setIfInBounds_toArray, List.set_cons_zero, List.set_cons_succ]
                have hHeld : v.cell? ⟨w1.heap.size, 0, none⟩ = some (.int .i64 (m : Int)) ∧ v.cell? ⟨w1.heap.size, 1, none⟩ = some (.slice a Lc.length cp) := ⟨p0, p1⟩
                refine wpAnyH_ready (rs := [7]) (by kernel_rfl) (by simp) ?_
                refine AllReadyH.cons rfl (fun K hK => ?_) AllReadyH.nil
                go_simp
                obtain ⟨u, hu⟩ : ∃ z, z = v.alloc (.cells #[.slice (some ⟨E, 0, none⟩) 1 1] 30) := ⟨_, rfl⟩
                have b : Below v.heap.size v u := by rw [hu]; exact (Below.refl _ _).alloc (Nat.le_refl _) _
                have eu : v.heap.size < u.heap.size := by rw [hu]; simp
                have fu : wE.heap.size ≤ v.heap.size := (unhide hbw).size
                have hO := hide (World.ownsRow.kept (w' := u) (unhide hO) (grown_below b) (by simp [Value.ownBlock]))
                have zO : g5 < u.heap.size := Nat.lt_of_lt_of_le zO b.size
                have hE := hide ((unhide hE).later b)
                have zE : E < u.heap.size := Nat.lt_of_lt_of_le zE b.size
                have hD0 := cell_later b hD0
                have hD1 := cell_later b hD1
                have hDf0 := (b.frozen (p := ⟨D, 0, none⟩) zD).trans hDf0
                have hDf1 := (b.frozen (p := ⟨D, 1, none⟩) zD).trans hDf1
                have zD : D < u.heap.size := Nat.lt_of_lt_of_le zD b.size
                have hbw := hide ((unhide hbw).trans (b.mono (unhide hbw).size))
                have p0 := cell_later b p0
                have p1 := cell_later b p1
                have hT : u.cell? ⟨v.heap.size, 0, none⟩ = some (.slice (some ⟨E, 0, none⟩) 1 1) := by rw [hu]; simp [go_sem]
                have nOT : g5 ≠ v.heap.size := by omega
                have nET : E ≠ v.heap.size := by omega
                have nTD : v.heap.size ≠ D := by omega
                rw [← hu]
                obtain ⟨T, hTe⟩ : ∃ z, z = v.heap.size := ⟨_, rfl⟩
                rw [← hTe] at hT nOT nET nTD ⊢
                have zT : T < u.heap.size := by omega
                have yT : wE.heap.size ≤ T := by omega
                clear hu b eu fu hTe
                refine hK.out _ _ ?_ (fun hHeld => ?_)
                · exact ⟨p0, p1⟩
                clear hK K
                try simp only [List.getElem_toArray, List.getElem_cons_succ, List.getElem_cons_zero, Act.put, List.setIfInBounds_toArray, List.set_cons_zero, List.set_cons_succ]
                rw [← unhide hGo]
                exact goTo (N_2_5_6_7_10 X g5 c5 E T D u hbw p0 p1 hO zO yO hE zE yE hT zT yT hD0 hD1 hDf0 hDf1 zD yD nOE nOT nOD nET nED nTD) (by kernel_rfl) (by kernel_rfl) (by rw [unhide ha0]; kernel_rfl)
              have N_2_6_7_10 : ∀ (X E T D : Nat) (v : World) (hbw : Hid (Below wE.heap.size wE v)) (p0 : v.cell? ⟨w1.heap.size, 0, none⟩ = some (.int .i64 (m : Int))) (p1 : v.cell? ⟨w1.heap.size, 1, none⟩ = some (.slice a Lc.length cp)) (hX : Hid (v.heap[X]? = some (.cells #[] 30 (0, 0)))) (zX : X < v.heap.size) (yX : wE.heap.size ≤ X) (hE : Hid (Clz.Ok (⟨E, 1, [-1]⟩ : Clz) v 0)) (zE : E < v.heap.size) (yE : wE.heap.size ≤ E) (hT : v.cell? ⟨T, 0, none⟩ = some (.slice (some ⟨E, 0, none⟩) 1 1)) (zT : T < v.heap.size) (yT : wE.heap.size ≤ T) (hD0 : v.cell? ⟨D, 0, none⟩ = some (.int .i64 0)) (hD1 : v.cell? ⟨D, 1, none⟩ = some (.slice none 0 0)) (hDf0 : v.frozen? ⟨D, 0, none⟩ = false) (hDf1 : v.frozen? ⟨D, 1, none⟩ = false) (zD : D < v.heap.size) (yD : wE.heap.size ≤ D) (nXE : X ≠ E) (nXT : X ≠ T) (nXD : X ≠ D) (nET : E ≠ T) (nED : E ≠ D) (nTD : T ≠ D), Go 4 #[true, true, true, true, true, false, true, true, false, false, true, false] ((((a0.put (some 89) (.slice (some ⟨X, 0, none⟩) 0 0)).put (some 93) (.slice (some ⟨E, 0, none⟩) 1 1)).put (some 94) (.slice (some ⟨T, 0, none⟩) 1 1)).put (some 8) (.pointer (some ⟨D, 0, none⟩))) v := by
                intro X E T D v hbw p0 p1 hX zX yX hE zE yE hT zT yT hD0 hD1 hDf0 hDf1 zD yD nXE nXT nXD nET nED nTD
                rw [unhide hGo, unhide ha0]
                try simp only [List.getElem_toArray, List.getElem_cons_succ, List.getElem_cons_zero, Act.put, List.setIfInBounds_toArray, List.set_cons_zero, List.set_cons_succ]
                have hHeld : v.cell? ⟨w1.heap.size, 0, none⟩ = some (.int .i64 (m : Int)) ∧ v.cell? ⟨w1.heap.size, 1, none⟩ = some (.slice a Lc.length cp) := ⟨p0, p1⟩
                refine wpAnyH_ready (rs := [5]) (by kernel_rfl) (by simp) ?_
                refine AllReadyH.cons rfl (fun K hK => ?_) AllReadyH.nil
                apply step_clz_copy (R := 0) (Ls := Lc) (base := wE.heap.size)
                case hgd => rfl
                case ho => rfl
                case hty => rfl
                case hs => rfl
                case hX => exact unhide hX
                case hbX => exact yX
                case hbase => exact (unhide hbw).size
                case hx => rfl
                case hc => exact (unhide HC0).later (unhide hbw)
                case hl => omega
                case' h => intro g5 c5 u o5 gr5 at5 lt5
                have mv5 : Mov X _ u := mov_of_grown gr5
                have hE := hide ((unhide hE).grown (grown_mov mv5) (by simp only [ne_eq, Option.some.injEq]; omega))
                have zE : E < u.heap.size := Nat.lt_of_lt_of_le zE mv5.size
                have hT := mv5.cell hT (by simp only; omega)
                have zT : T < u.heap.size := Nat.lt_of_lt_of_le zT mv5.size
                have hD0 := mv5.cell hD0 (by simp only; omega)
                have hD1 := mv5.cell hD1 (by simp only; omega)
                have hDf0 := (World.frozen?_of_block (w := v) (a := ⟨D, 0, none⟩) (mv5.2.2.2.2 D zD (by omega))).trans hDf0
                have hDf1 := (World.frozen?_of_block (w := v) (a := ⟨D, 1, none⟩) (mv5.2.2.2.2 D zD (by omega))).trans hDf1
                have zD : D < u.heap.size := Nat.lt_of_lt_of_le zD mv5.size
                have p0 := mv5.cell p0 (by simp only; omega)
                have p1 := mv5.cell p1 (by simp only; omega)
                have hbw := hide ((unhide hbw).trans (mv5.below yX (unhide hbw).size))
                have hO := hide o5
                have zO := lt5
                have yO : wE.heap.size ≤ g5 := own_base o5
                have nOE : g5 ≠ E := by rcases at5 with e | e <;> omega
                have nOT : g5 ≠ T := by rcases at5 with e | e <;> omega
                have nOD : g5 ≠ D := by rcases at5 with e | e <;> omega
                clear o5 gr5 at5 lt5 mv5
                refine hK.out _ _ ?_ (fun hHeld => ?_)
                · exact ⟨p0, p1⟩
                clear hK K
                try simp only [List.getElem_toArray, List.getElem_cons_succ, List.getElem_cons_zero, Act.put, List.setIfInBounds_toArray, List.set_cons_zero, List.set_cons_succ]
                rw [← unhide hGo]
                exact goTo (N_2_5_6_7_10 X g5 c5 E T D u hbw p0 p1 hO zO yO hE zE yE hT zT yT hD0 hD1 hDf0 hDf1 zD yD nOE nOT nOD nET nED nTD) (by kernel_rfl) (by kernel_rfl) (by rw [unhide ha0]; kernel_rfl)
              have N_2_5_6 : ∀ (X g5 c5 E : Nat) (v : World) (hbw : Hid (Below wE.heap.size wE v)) (p0 : v.cell? ⟨w1.heap.size, 0, none⟩ = some (.int .i64 (m : Int))) (p1 : v.cell? ⟨w1.heap.size, 1, none⟩ = some (.slice a Lc.length cp)) (hO : Hid (v.ownsRow wE.heap.size 30 1 (.slice (some ⟨g5, 0, none⟩) Lc.length c5) Lc.length (scells Lc))) (zO : g5 < v.heap.size) (yO : wE.heap.size ≤ g5) (hE : Hid (Clz.Ok (⟨E, 1, [-1]⟩ : Clz) v 0)) (zE : E < v.heap.size) (yE : wE.heap.size ≤ E) (nOE : g5 ≠ E), Go 5 #[true, true, true, true, true, true, true, false, false, false, false, false] (((a0.put (some 89) (.slice (some ⟨X, 0, none⟩) 0 0)).put (some 92) (.slice (some ⟨g5, 0, none⟩) Lc.length c5)).put (some 93) (.slice (some ⟨E, 0, none⟩) 1 1)) v := by
                intro X g5 c5 E v hbw p0 p1 hO zO yO hE zE yE nOE
                rw [unhide hGo, unhide ha0]
                try simp only [List.getElem_toArray, List.getElem_cons_succ, List.getElem_cons_zero, Act.put, List.setIfInBounds_toArray, List.set_cons_zero, List.set_cons_succ]
                have hHeld : v.cell? ⟨w1.heap.size, 0, none⟩ = some (.int .i64 (m : Int)) ∧ v.cell? ⟨w1.heap.size, 1, none⟩ = some (.slice a Lc.length cp) := ⟨p0, p1⟩
                refine wpAnyH_ready (rs := [7, 10]) (by kernel_rfl) (by simp) ?_
                refine AllReadyH.cons rfl (fun K hK => ?_) (AllReadyH.cons rfl (fun K hK => ?_) AllReadyH.nil)
                · go_simp
                  obtain ⟨u, hu⟩ : ∃ z, z = v.alloc (.cells #[.slice (some ⟨E, 0, none⟩) 1 1] 30) := ⟨_, rfl⟩
                  have b : Below v.heap.size v u := by rw [hu]; exact (Below.refl _ _).alloc (Nat.le_refl _) _
                  have eu : v.heap.size < u.heap.size := by rw [hu]; simp
                  have fu : wE.heap.size ≤ v.heap.size := (unhide hbw).size
                  have hO := hide (World.ownsRow.kept (w' := u) (unhide hO) (grown_below b) (by simp [Value.ownBlock]))
                  have zO : g5 < u.heap.size := Nat.lt_of_lt_of_le zO b.size
                  have hE := hide ((unhide hE).later b)
                  have zE : E < u.heap.size := Nat.lt_of_lt_of_le zE b.size
                  have hbw := hide ((unhide hbw).trans (b.mono (unhide hbw).size))
                  have p0 := cell_later b p0
                  have p1 := cell_later b p1
                  have hT : u.cell? ⟨v.heap.size, 0, none⟩ = some (.slice (some ⟨E, 0, none⟩) 1 1) := by rw [hu]; simp [go_sem]
                  have nOT : g5 ≠ v.heap.size := by omega
                  have nET : E ≠ v.heap.size := by omega
                  rw [← hu]
                  obtain ⟨T, hTe⟩ : ∃ z, z = v.heap.size := ⟨_, rfl⟩
                  rw [← hTe] at hT nOT nET ⊢
                  have zT : T < u.heap.size := by omega
                  have yT : wE.heap.size ≤ T := by omega
                  clear hu b eu fu hTe
                  refine hK.out _ _ ?_ (fun hHeld => ?_)
                  · exact ⟨p0, p1⟩
                  clear hK K
                  try simp only [List.getElem_toArray, List.getElem_cons_succ, List.getElem_cons_zero, Act.put, List.setIfInBounds_toArray, List.set_cons_zero, List.set_cons_succ]
                  rw [← unhide hGo]
                  exact goTo (N_2_5_6_7 X g5 c5 E T u hbw p0 p1 hO zO yO hE zE yE hT zT yT nOE nOT nET) (by kernel_rfl) (by kernel_rfl) (by rw [unhide ha0]; kernel_rfl)
                · go_simp
                  obtain ⟨u, hu⟩ : ∃ z, z = v.alloc (.cells #[.int .i64 0, .slice none 0 0] 25) := ⟨_, rfl⟩
                  have b : Below v.heap.size v u := by rw [hu]; exact (Below.refl _ _).alloc (Nat.le_refl _) _
                  have eu : v.heap.size < u.heap.size := by rw [hu]; simp
                  have fu : wE.heap.size ≤ v.heap.size := (unhide hbw).size
                  have hO := hide (World.ownsRow.kept (w' := u) (unhide hO) (grown_below b) (by simp [Value.ownBlock]))
                  have zO : g5 < u.heap.size := Nat.lt_of_lt_of_le zO b.size
                  have hE := hide ((unhide hE).later b)
                  have zE : E < u.heap.size := Nat.lt_of_lt_of_le zE b.size
                  have hbw := hide ((unhide hbw).trans (b.mono (unhide hbw).size))
                  have p0 := cell_later b p0
                  have p1 := cell_later b p1
                  have hD0 : u.cell? ⟨v.heap.size, 0, none⟩ = some (.int .i64 0) := by rw [hu]; simp [go_sem]
                  have hD1 : u.cell? ⟨v.heap.size, 1, none⟩ = some (.slice none 0 0) := by rw [hu]; simp [go_sem]
                  have hDf0 : u.frozen? ⟨v.heap.size, 0, none⟩ = false := by rw [hu]; simp [go_sem]
                  have hDf1 : u.frozen? ⟨v.heap.size, 1, none⟩ = false := by rw [hu]; simp [go_sem]
                  have nOD : g5 ≠ v.heap.size := by omega
                  have nED : E ≠ v.heap.size := by omega
                  rw [← hu]
                  obtain ⟨D, hDe⟩ : ∃ z, z = v.heap.size := ⟨_, rfl⟩
                  rw [← hDe] at hD0 hD1 hDf0 hDf1 nOD nED ⊢
                  have zD : D < u.heap.size := by omega
                  have yD : wE.heap.size ≤ D := by omega
                  clear hu b eu fu hDe
                  refine hK.out _ _ ?_ (fun hHeld => ?_)
                  · exact ⟨p0, p1⟩
                  clear hK K
                  try simp only [List.getElem_toArray, List.getElem_cons_succ, List.getElem_cons_zero, Act.put, List.setIfInBounds_toArray, List.set_cons_zero, List.set_cons_succ]
                  rw [← unhide hGo]
                  exact goTo (N_2_5_6_10 X g5 c5 E D u hbw p0 p1 hO zO yO hE zE yE hD0 hD1 hDf0 hDf1 zD yD nOE nOD nED) (by kernel_rfl) (by kernel_rfl) (by rw [unhide ha0]; kernel_rfl)
              have N_2_5_10 : ∀ (X g5 c5 D : Nat) (v : World) (hbw : Hid (Below wE.heap.size wE v)) (p0 : v.cell? ⟨w1.heap.size, 0, none⟩ = some (.int .i64 (m : Int))) (p1 : v.cell? ⟨w1.heap.size, 1, none⟩ = some (.slice a Lc.length cp)) (hO : Hid (v.ownsRow wE.heap.size 30 1 (.slice (some ⟨g5, 0, none⟩) Lc.length c5) Lc.length (scells Lc))) (zO : g5 < v.heap.size) (yO : wE.heap.size ≤ g5) (hD0 : v.cell? ⟨D, 0, none⟩ = some (.int .i64 0)) (hD1 : v.cell? ⟨D, 1, none⟩ = some (.slice none 0 0)) (hDf0 : v.frozen? ⟨D, 0, none⟩ = false) (hDf1 : v.frozen? ⟨D, 1, none⟩ = false) (zD : D < v.heap.size) (yD : wE.heap.size ≤ D) (nOD : g5 ≠ D), Go 5 #[true, true, true, true, true, true, false, false, false, false, true, false] (((a0.put (some 89) (.slice (some ⟨X, 0, none⟩) 0 0)).put (some 92) (.slice (some ⟨g5, 0, none⟩) Lc.length c5)).put (some 8) (.pointer (some ⟨D, 0, none⟩))) v := by
                intro X g5 c5 D v hbw p0 p1 hO zO yO hD0 hD1 hDf0 hDf1 zD yD nOD
                rw [unhide hGo, unhide ha0]
                try simp only [List.getElem_toArray, List.getElem_cons_succ, List.getElem_cons_zero, Act.put, List.setIfInBounds_toArray, List.set_cons_zero, List.set_cons_succ]
                have hHeld : v.cell? ⟨w1.heap.size, 0, none⟩ = some (.int .i64 (m : Int)) ∧ v.cell? ⟨w1.heap.size, 1, none⟩ = some (.slice a Lc.length cp) := ⟨p0, p1⟩
                refine wpAnyH_ready (rs := [6]) (by kernel_rfl) (by simp) ?_
                refine AllReadyH.cons rfl (fun K hK => ?_) AllReadyH.nil
                go_simp
                obtain ⟨u, hu⟩ : ∃ z, z = v.alloc (.cells #[.int .i64 (-1)] 3) := ⟨_, rfl⟩
                have b : Below v.heap.size v u := by rw [hu]; exact (Below.refl _ _).alloc (Nat.le_refl _) _
                have eu : v.heap.size < u.heap.size := by rw [hu]; simp
                have fu : wE.heap.size ≤ v.heap.size := (unhide hbw).size
                have hO := hide (World.ownsRow.kept (w' := u) (unhide hO) (grown_below b) (by simp [Value.ownBlock]))
                have zO : g5 < u.heap.size := Nat.lt_of_lt_of_le zO b.size
                have hD0 := cell_later b hD0
                have hD1 := cell_later b hD1
                have hDf0 := (b.frozen (p := ⟨D, 0, none⟩) zD).trans hDf0
                have hDf1 := (b.frozen (p := ⟨D, 1, none⟩) zD).trans hDf1
                have zD : D < u.heap.size := Nat.lt_of_lt_of_le zD b.size
                have hbw := hide ((unhide hbw).trans (b.mono (unhide hbw).size))
                have p0 := cell_later b p0
                have p1 := cell_later b p1
                have hE : Hid (Clz.Ok (⟨v.heap.size, 1, [-1]⟩ : Clz) u 0) := by show Clz.Ok _ _ _; rw [hu]; exact clz_lit v 0 #[.int .i64 (-1)] [-1] rfl (by omega) (by simp) (unhide hLit)
                have nOE : g5 ≠ v.heap.size := by omega
                have nED : v.heap.size ≠ D := by omega
                rw [← hu]
                obtain ⟨E, hEe⟩ : ∃ z, z = v.heap.size := ⟨_, rfl⟩
                rw [← hEe] at hE nOE nED ⊢
                have zE : E < u.heap.size := by omega
                have yE : wE.heap.size ≤ E := by omega
                clear hu b eu fu hEe
                refine hK.out _ _ ?_ (fun hHeld => ?_)
                · exact ⟨p0, p1⟩
                clear hK K
                try simp only [List.getElem_toArray, List.getElem_cons_succ, List.getElem_cons_zero, Act.put, List.setIfInBounds_toArray, List.set_cons_zero, List.set_cons_succ]
                rw [← unhide hGo]
                exact goTo (N_2_5_6_10 X g5 c5 E D u hbw p0 p1 hO zO yO hE zE yE hD0 hD1 hDf0 hDf1 zD yD nOE nOD nED) (by kernel_rfl) (by kernel_rfl) (by rw [unhide ha0]; kernel_rfl)
              have N_2_6_7 : ∀ (X E T : Nat) (v : World) (hbw : Hid (Below wE.heap.size wE v)) (p0 : v.cell? ⟨w1.heap.size, 0, none⟩ = some (.int .i64 (m : Int))) (p1 : v.cell? ⟨w1.heap.size, 1, none⟩ = some (.slice a Lc.length cp)) (hX : Hid (v.heap[X]? = some (.cells #[] 30 (0, 0)))) (zX : X < v.heap.size) (yX : wE.heap.size ≤ X) (hE : Hid (Clz.Ok (⟨E, 1, [-1]⟩ : Clz) v 0)) (zE : E < v.heap.size) (yE : wE.heap.size ≤ E) (hT : v.cell? ⟨T, 0, none⟩ = some (.slice (some ⟨E, 0, none⟩) 1 1)) (zT : T < v.heap.size) (yT : wE.heap.size ≤ T) (nXE : X ≠ E) (nXT : X ≠ T) (nET : E ≠ T), Go 5 #[true, true, true, true, true, false, true, true, false, false, false, false] (((a0.put (some 89) (.slice (some ⟨X, 0, none⟩) 0 0)).put (some 93) (.slice (some ⟨E, 0, none⟩) 1 1)).put (some 94) (.slice (some ⟨T, 0, none⟩) 1 1)) v := by
                intro X E T v hbw p0 p1 hX zX yX hE zE yE hT zT yT nXE nXT nET
                rw [unhide hGo, unhide ha0]
                try simp only [List.getElem_toArray, List.getElem_cons_succ, List.getElem_cons_zero, Act.put, List.setIfInBounds_toArray, List.set_cons_zero, List.set_cons_succ]
                have hHeld : v.cell? ⟨w1.heap.size, 0, none⟩ = some (.int .i64 (m : Int)) ∧ v.cell? ⟨w1.heap.size, 1, none⟩ = some (.slice a Lc.length cp) := ⟨p0, p1⟩
                refine wpAnyH_ready (rs := [5, 10]) (by kernel_rfl) (by simp) ?_
                refine AllReadyH.cons rfl (fun K hK => ?_) (AllReadyH.cons rfl (fun K hK => ?_) AllReadyH.nil)
                · apply step_clz_copy (R := 0) (Ls := Lc) (base := wE.heap.size)
                  case hgd => rfl
                  case ho => rfl
                  case hty => rfl
                  case hs => rfl
                  case hX => exact unhide hX
                  case hbX => exact yX
                  case hbase => exact (unhide hbw).size
                  case hx => rfl
                  case hc => exact (unhide HC0).later (unhide hbw)
                  case hl => omega
                  case' h => intro g5 c5 u o5 gr5 at5 lt5
                  have mv5 : Mov X _ u := mov_of_grown gr5
                  have hE := hide ((unhide hE).grown (grown_mov mv5) (by simp only [ne_eq, Option.some.injEq]; omega))
                  have zE : E < u.heap.size := Nat.lt_of_lt_of_le zE mv5.size
                  have hT := mv5.cell hT (by simp only; omega)
                  have zT : T < u.heap.size := Nat.lt_of_lt_of_le zT mv5.size
                  have p0 := mv5.cell p0 (by simp only; omega)
                  have p1 := mv5.cell p1 (by simp only; omega)
                  have hbw := hide ((unhide hbw).trans (mv5.below yX (unhide hbw).size))
                  have hO := hide o5
                  have zO := lt5
                  have yO : wE.heap.size ≤ g5 := own_base o5
                  have nOE : g5 ≠ E := by rcases at5 with e | e <;> omega
                  have nOT : g5 ≠ T := by rcases at5 with e | e <;> omega
                  clear o5 gr5 at5 lt5 mv5
                  refine hK.out _ _ ?_ (fun hHeld => ?_)
                  · exact ⟨p0, p1⟩
                  clear hK K
                  try simp only [List.getElem_toArray, List.getElem_cons_succ, List.getElem_cons_zero, Act.put, List.setIfInBounds_toArray, List.set_cons_zero, List.set_cons_succ]
                  rw [← unhide hGo]
                  exact goTo (N_2_5_6_7 X g5 c5 E T u hbw p0 p1 hO zO yO hE zE yE hT zT yT nOE nOT nET) (by kernel_rfl) (by kernel_rfl) (by rw [unhide ha0]; kernel_rfl)
                · go_simp
                  obtain ⟨u, hu⟩ : ∃ z, z = v.alloc (.cells #[.int .i64 0, .slice none 0 0] 25) := ⟨_, rfl⟩
                  have b : Below v.heap.size v u := by rw [hu]; exact (Below.refl _ _).alloc (Nat.le_refl _) _
                  have eu : v.heap.size < u.heap.size := by rw [hu]; simp
                  have fu : wE.heap.size ≤ v.heap.size := (unhide hbw).size
                  have hX : Hid (u.heap[X]? = some (.cells #[] 30 (0, 0))) := (b.block _ (by omega)).trans (unhide hX)
                  have zX : X < u.heap.size := Nat.lt_of_lt_of_le zX b.size
                  have hE := hide ((unhide hE).later b)
                  have zE : E < u.heap.size := Nat.lt_of_lt_of_le zE b.size
                  have hT := cell_later b hT
                  have zT : T < u.heap.size := Nat.lt_of_lt_of_le zT b.size
                  have hbw := hide ((unhide hbw).trans (b.mono (unhide hbw).size))
                  have p0 := cell_later b p0
                  have p1 := cell_later b p1
                  have hD0 : u.cell? ⟨v.heap.size, 0, none⟩ = some (.int .i64 0) := by rw [hu]; simp [go_sem]
                  have hD1 : u.cell? ⟨v.heap.size, 1, none⟩ = some (.slice none 0 0) := by rw [hu]; simp [go_sem]
                  have hDf0 : u.frozen? ⟨v.heap.size, 0, none⟩ = false := by rw [hu]; simp [go_sem]
                  have hDf1 : u.frozen? ⟨v.heap.size, 1, none⟩ = false := by rw [hu]; simp [go_sem]
                  have nXD : X ≠ v.heap.size := by omega
                  have nED : E ≠ v.heap.size := by omega
                  have nTD : T ≠ v.heap.size := by omega
                  rw [← hu]
                  obtain ⟨D, hDe⟩ : ∃ z, z = v.heap.size := ⟨_, rfl⟩
                  rw [← hDe] at hD0 hD1 hDf0 hDf1 nXD nED nTD ⊢
                  have zD : D < u.heap.size := by omega
                  have yD : wE.heap.size ≤ D := by omega
                  clear hu b eu fu hDe
                  refine hK.out _ _ ?_ (fun hHeld => ?_)
                  · exact ⟨p0, p1⟩
                  clear hK K
                  try simp only [List.getElem_toArray, List.getElem_cons_succ, List.getElem_cons_zero, Act.put, List.setIfInBounds_toArray, List.set_cons_zero, List.set_cons_succ]
                  rw [← unhide hGo]
                  exact goTo (N_2_6_7_10 X E T D u hbw p0 p1 hX zX yX hE zE yE hT zT yT hD0 hD1 hDf0 hDf1 zD yD nXE nXT nXD nET nED nTD) (by kernel_rfl) (by kernel_rfl) (by rw [unhide ha0]; kernel_rfl)
              have N_2_6_10 : ∀ (X E D : Nat) (v : World) (hbw : Hid (Below wE.heap.size wE v)) (p0 : v.cell? ⟨w1.heap.size, 0, none⟩ = some (.int .i64 (m : Int))) (p1 : v.cell? ⟨w1.heap.size, 1, none⟩ = some (.slice a Lc.length cp)) (hX : Hid (v.heap[X]? = some (.cells #[] 30 (0, 0)))) (zX : X < v.heap.size) (yX : wE.heap.size ≤ X) (hE : Hid (Clz.Ok (⟨E, 1, [-1]⟩ : Clz) v 0)) (zE : E < v.heap.size) (yE : wE.heap.size ≤ E) (hD0 : v.cell? ⟨D, 0, none⟩ = some (.int .i64 0)) (hD1 : v.cell? ⟨D, 1, none⟩ = some (.slice none 0 0)) (hDf0 : v.frozen? ⟨D, 0, none⟩ = false) (hDf1 : v.frozen? ⟨D, 1, none⟩ = false) (zD : D < v.heap.size) (yD : wE.heap.size ≤ D) (nXE : X ≠ E) (nXD : X ≠ D) (nED : E ≠ D), Go 5 #[true, true, true, true, true, false, true, false, false, false, true, false] (((a0.put (some 89) (.slice (some ⟨X, 0, none⟩) 0 0)).put (some 93) (.slice (some ⟨E, 0, none⟩) 1 1)).put (some 8) (.pointer (some ⟨D, 0, none⟩))) v := by
                intro X E D v hbw p0 p1 hX zX yX hE zE yE hD0 hD1 hDf0 hDf1 zD yD nXE nXD nED
                rw [unhide hGo, unhide ha0]
                try simp only [List.getElem_toArray, List.getElem_cons_succ, List.getElem_cons_zero, Act.put, List.setIfInBounds_toArray, List.set_cons_zero, List.set_cons_succ]
                have hHeld : v.cell? ⟨w1.heap.size, 0, none⟩ = some (.int .i64 (m : Int)) ∧ v.cell? ⟨w1.heap.size, 1, none⟩ = some (.slice a Lc.length cp) := ⟨p0, p1⟩
                refine wpAnyH_ready (rs := [5, 7]) (by kernel_rfl) (by simp) ?_
                refine AllReadyH.cons rfl (fun K hK => ?_) (AllReadyH.cons rfl (fun K hK => ?_) AllReadyH.nil)
                · apply step_clz_copy (R := 0) (Ls := Lc) (base := wE.heap.size)
                  case hgd => rfl
                  case ho => rfl
                  case hty => rfl
                  case hs => rfl
                  case hX => exact unhide hX
                  case hbX => exact yX
                  case hbase => exact (unhide hbw).size
                  case hx => rfl
                  case hc => exact (unhide HC0).later (unhide hbw)
                  case hl => omega
                  case' h => intro g5 c5 u o5 gr5 at5 lt5
                  have mv5 : Mov X _ u := mov_of_grown gr5
                  have hE := hide ((unhide hE).grown (grown_mov mv5) (by simp only [ne_eq, Option.some.injEq]; omega))
                  have zE : E < u.heap.size := Nat.lt_of_lt_of_le zE mv5.size
                  have hD0 := mv5.cell hD0 (by simp only; omega)
                  have hD1 := mv5.cell hD1 (by simp only; omega)
                  have hDf0 := (World.frozen?_of_block (w := v) (a := ⟨D, 0, none⟩) (mv5.2.2.2.2 D zD (by omega))).trans hDf0
                  have hDf1 := (World.frozen?_of_block (w := v) (a := ⟨D, 1, none⟩) (mv5.2.2.2.2 D zD (by omega))).trans hDf1
                  have zD : D < u.heap.size := Nat.lt_of_lt_of_le zD mv5.size
                  have p0 := mv5.cell p0 (by simp only; omega)
                  have p1 := mv5.cell p1 (by simp only; omega)
                  have hbw := hide ((unhide hbw).trans (mv5.below yX (unhide hbw).size))
                  have hO := hide o5
                  have zO := lt5
                  have yO : wE.heap.size ≤ g5 := own_base o5
                  have nOE : g5 ≠ E := by rcases at5 with e | e <;> omega
                  have nOD : g5 ≠ D := by rcases at5 with e | e <;> omega
                  clear o5 gr5 at5 lt5 mv5
                  refine hK.out _ _ ?_ (fun hHeld => ?_)
                  · exact ⟨p0, p1⟩
                  clear hK K
                  try simp only [List.getElem_toArray, List.getElem_cons_succ, List.getElem_cons_zero, Act.put, List.setIfInBounds_toArray, List.set_cons_zero, List.set_cons_succ]
                  rw [← unhide hGo]
                  exact goTo (N_2_5_6_10 X g5 c5 E D u hbw p0 p1 hO zO yO hE zE yE hD0 hD1 hDf0 hDf1 zD yD nOE nOD nED) (by kernel_rfl) (by kernel_rfl) (by rw [unhide ha0]; kernel_rfl)
                · go_simp
                  obtain ⟨u, hu⟩ : ∃ z, z = v.alloc (.cells #[.slice (some ⟨E, 0, none⟩) 1 1] 30) := ⟨_, rfl⟩
                  have b : Below v.heap.size v u := by rw [hu]; exact (Below.refl _ _).alloc (Nat.le_refl _) _
                  have eu : v.heap.size < u.heap.size := by rw [hu]; simp
                  have fu : wE.heap.size ≤ v.heap.size := (unhide hbw).size
                  have hX : Hid (u.heap[X]? = some (.cells #[] 30 (0, 0))) := (b.block _ (by omega)).trans (unhide hX)
                  have zX : X < u.heap.size := Nat.lt_of_lt_of_le zX b.size
                  have hE := hide ((unhide hE).later b)
                  have zE : E < u.heap.size := Nat.lt_of_lt_of_le zE b.size
                  have hD0 := cell_later b hD0
                  have hD1 := cell_later b hD1
                  have hDf0 := (b.frozen (p := ⟨D, 0, none⟩) zD).trans hDf0
                  have hDf1 := (b.frozen (p := ⟨D, 1, none⟩) zD).trans hDf1
                  have zD : D < u.heap.size := Nat.lt_of_lt_of_le zD b.size
                  have hbw := hide ((unhide hbw).trans (b.mono (unhide hbw).size))
                  have p0 := cell_later b p0
                  have p1 := cell_later b p1
                  have hT : u.cell? ⟨v.heap.size, 0, none⟩ = some (.slice (some ⟨E, 0, none⟩) 1 1) := by rw [hu]; simp [go_sem]
                  have nXT : X ≠ v.heap.size := by omega
                  have nET : E ≠ v.heap.size := by omega
                  have nTD : v.heap.size ≠ D := by omega
                  rw [← hu]
                  obtain ⟨T, hTe⟩ : ∃ z, z = v.heap.size := ⟨_, rfl⟩
                  rw [← hTe] at hT nXT nET nTD ⊢
                  have zT : T < u.heap.size := by omega
                  have yT : wE.heap.size ≤ T := by omega
                  clear hu b eu fu hTe
                  refine hK.out _ _ ?_ (fun hHeld => ?_)
                  · exact ⟨p0, p1⟩
                  clear hK K
                  try simp only [List.getElem_toArray, List.getElem_cons_succ, List.getElem_cons_zero, Act.put, List.setIfInBounds_toArray, List.set_cons_zero, List.set_cons_succ]
                  rw [← unhide hGo]
                  exact goTo (N_2_6_7_10 X E T D u hbw p0 p1 hX zX yX hE zE yE hT zT yT hD0 hD1 hDf0 hDf1 zD yD nXE nXT nXD nET nED nTD) (by kernel_rfl) (by kernel_rfl) (by rw [unhide ha0]; kernel_rfl)
              have N_6_7_10 : ∀ (E T D : Nat) (v : World) (hbw : Hid (Below wE.heap.size wE v)) (p0 : v.cell? ⟨w1.heap.size, 0, none⟩ = some (.int .i64 (m : Int))) (p1 : v.cell? ⟨w1.heap.size, 1, none⟩ = some (.slice a Lc.length cp)) (hE : Hid (Clz.Ok (⟨E, 1, [-1]⟩ : Clz) v 0)) (zE : E < v.heap.size) (yE : wE.heap.size ≤ E) (hT : v.cell? ⟨T, 0, none⟩ = some (.slice (some ⟨E, 0, none⟩) 1 1)) (zT : T < v.heap.size) (yT : wE.heap.size ≤ T) (hD0 : v.cell? ⟨D, 0, none⟩ = some (.int .i64 0)) (hD1 : v.cell? ⟨D, 1, none⟩ = some (.slice none 0 0)) (hDf0 : v.frozen? ⟨D, 0, none⟩ = false) (hDf1 : v.frozen? ⟨D, 1, none⟩ = false) (zD : D < v.heap.size) (yD : wE.heap.size ≤ D) (nET : E ≠ T) (nED : E ≠ D) (nTD : T ≠ D), Go 5 #[true, true, false, true, true, false, true, true, false, false, true, false] (((a0.put (some 93) (.slice (some ⟨E, 0, none⟩) 1 1)).put (some 94) (.slice (some ⟨T, 0, none⟩) 1 1)).put (some 8) (.pointer (some ⟨D, 0, none⟩))) v := by
                intro E T D v hbw p0 p1 hE zE yE hT zT yT hD0 hD1 hDf0 hDf1 zD yD nET nED nTD
                rw [unhide hGo, unhide ha0]
                try simp only [List.getElem_toArray, List.getElem_cons_succ, List.getElem_cons_zero, Act.put, List.setIfInBounds_toArray, List.set_cons_zero, List.set_cons_succ]
                have hHeld : v.cell? ⟨w1.heap.size, 0, none⟩ = some (.int .i64 (m : Int)) ∧ v.cell? ⟨w1.heap.size, 1, none⟩ = some (.slice a Lc.length cp) := ⟨p0, p1⟩
                refine wpAnyH_ready (rs := [2]) (by kernel_rfl) (by simp) ?_
                refine AllReadyH.cons rfl (fun K hK => ?_) AllReadyH.nil
                go_simp
                obtain ⟨u, hu⟩ : ∃ z, z = v.alloc (.cells #[] 30) := ⟨_, rfl⟩
                have b : Below v.heap.size v u := by rw [hu]; exact (Below.refl _ _).alloc (Nat.le_refl _) _
                have eu : v.heap.size < u.heap.size := by rw [hu]; simp
                have fu : wE.heap.size ≤ v.heap.size := (unhide hbw).size
                have hE := hide ((unhide hE).later b)
                have zE : E < u.heap.size := Nat.lt_of_lt_of_le zE b.size
                have hT := cell_later b hT
                have zT : T < u.heap.size := Nat.lt_of_lt_of_le zT b.size
                have hD0 := cell_later b hD0
                have hD1 := cell_later b hD1
                have hDf0 := (b.frozen (p := ⟨D, 0, none⟩) zD).trans hDf0
                have hDf1 := (b.frozen (p := ⟨D, 1, none⟩) zD).trans hDf1
                have zD : D < u.heap.size := Nat.lt_of_lt_of_le zD b.size
                have hbw := hide ((unhide hbw).trans (b.mono (unhide hbw).size))
                have p0 := cell_later b p0
                have p1 := cell_later b p1
                have hX : Hid (u.heap[v.heap.size]? = some (.cells #[] 30 (0, 0))) := by show _ = _; rw [hu]; exact alloc_at rfl
                have nXE : v.heap.size ≠ E := by omega
                have nXT : v.heap.size ≠ T := by omega
                have nXD : v.heap.size ≠ D := by omega
                rw [← hu]
                obtain ⟨X, hXe⟩ : ∃ z, z = v.heap.size := ⟨_, rfl⟩
                rw [← hXe] at hX nXE nXT nXD ⊢
                have zX : X < u.heap.size := by omega
                have yX : wE.heap.size ≤ X := by omega
                clear hu b eu fu hXe
                refine hK.out _ _ ?_ (fun hHeld => ?_)
                · exact ⟨p0, p1⟩
                clear hK K
                try simp only [List.getElem_toArray, List.getElem_cons_succ, List.getElem_cons_zero, Act.put, List.setIfInBounds_toArray, List.set_cons_zero, List.set_cons_succ]
                rw [← unhide hGo]
                exact goTo (N_2_6_7_10 X E T D u hbw p0 p1 hX zX yX hE zE yE hT zT yT hD0 hD1 hDf0 hDf1 zD yD nXE nXT nXD nET nED nTD) (by kernel_rfl) (by kernel_rfl) (by rw [unhide ha0]; kernel_rfl)
              have N_2_5 : ∀ (X g5 c5 : Nat) (v : World) (hbw : Hid (Below wE.heap.size wE v)) (p0 : v.cell? ⟨w1.heap.size, 0, none⟩ = some (.int .i64 (m : Int))) (p1 : v.cell? ⟨w1.heap.size, 1, none⟩ = some (.slice a Lc.length cp)) (hO : Hid (v.ownsRow wE.heap.size 30 1 (.slice (some ⟨g5, 0, none⟩) Lc.length c5) Lc.length (scells Lc))) (zO : g5 < v.heap.size) (yO : wE.heap.size ≤ g5), Go 6 #[true, true, true, true, true, true, false, false, false, false, false, false] ((a0.put (some 89) (.slice (some ⟨X, 0, none⟩) 0 0)).put (some 92) (.slice (some ⟨g5, 0, none⟩) Lc.length c5)) v := by
                intro X g5 c5 v hbw p0 p1 hO zO yO
                rw [unhide hGo, unhide ha0]
                try simp only [List.getElem_toArray, List.getElem_cons_succ, List.getElem_cons_zero, Act.put, List.setIfInBounds_toArray, List.set_cons_zero, List.set_cons_succ]
                have hHeld : v.cell? ⟨w1.heap.size, 0, none⟩ = some (.int .i64 (m : Int)) ∧ v.cell? ⟨w1.heap.size, 1, none⟩ = some (.slice a Lc.length cp) := ⟨p0, p1⟩
                refine wpAnyH_ready (rs := [6, 10]) (by kernel_rfl) (by simp) ?_
                refine AllReadyH.cons rfl (fun K hK => ?_) (AllReadyH.cons rfl (fun K hK => ?_) AllReadyH.nil)
                · go_simp
                  obtain ⟨u, hu⟩ : ∃ z, z = v.alloc (.cells #[.int .i64 (-1)] 3) := ⟨_, rfl⟩
                  have b : Below v.heap.size v u := by rw [hu]; exact (Below.refl _ _).alloc (Nat.le_refl _) _
                  have eu : v.heap.size < u.heap.size := by rw [hu]; simp
                  have fu : wE.heap.size ≤ v.heap.size := (unhide hbw).size
                  have hO := hide (World.ownsRow.kept (w' := u) (unhide hO) (grown_below b) (by simp [Value.ownBlock]))
                  have zO : g5 < u.heap.size := Nat.lt_of_lt_of_le zO b.size
                  have hbw := hide ((unhide hbw).trans (b.mono (unhide hbw).size))
                  have p0 := cell_later b p0
                  have p1 := cell_later b p1
                  have hE : Hid (Clz.Ok (⟨v.heap.size, 1, [-1]⟩ : Clz) u 0) := by show Clz.Ok _ _ _; rw [hu]; exact clz_lit v 0 #[.int .i64 (-1)] [-1] rfl (by omega) (by simp) (unhide hLit)
                  have nOE : g5 ≠ v.heap.size := by omega
                  rw [← hu]
                  obtain ⟨E, hEe⟩ : ∃ z, z = v.heap.size := ⟨_, rfl⟩
                  rw [← hEe] at hE nOE ⊢
                  have zE : E < u.heap.size := by omega
                  have yE : wE.heap.size ≤ E := by omega
                  clear hu b eu fu hEe
                  refine hK.out _ _ ?_ (fun hHeld => ?_)
                  · exact ⟨p0, p1⟩
                  clear hK K
                  try simp only [List.getElem_toArray, List.getElem_cons_succ, List.getElem_cons_zero, Act.put, List.setIfInBounds_toArray, List.set_cons_zero, List.set_cons_succ]
                  rw [← unhide hGo]
                  exact goTo (N_2_5_6 X g5 c5 E u hbw p0 p1 hO zO yO hE zE yE nOE) (by kernel_rfl) (by kernel_rfl) (by rw [unhide ha0]; kernel_rfl)
                · go_simp
                  obtain ⟨u, hu⟩ : ∃ z, z = v.alloc (.cells #[.int .i64 0, .slice none 0 0] 25) := ⟨_, rfl⟩
                  have b : Below v.heap.size v u := by rw [hu]; exact (Below.refl _ _).alloc (Nat.le_refl _) _
                  have eu : v.heap.size < u.heap.size := by rw [hu]; simp
                  have fu : wE.heap.size ≤ v.heap.size := (unhide hbw).size
                  have hO := hide (World.ownsRow.kept (w' := u) (unhide hO) (grown_below b) (by simp [Value.ownBlock]))
                  have zO : g5 < u.heap.size := Nat.lt_of_lt_of_le zO b.size
                  have hbw := hide ((unhide hbw).trans (b.mono (unhide hbw).size))
                  have p0 := cell_later b p0
                  have p1 := cell_later b p1
                  have hD0 : u.cell? ⟨v.heap.size, 0, none⟩ = some (.int .i64 0) := by rw [hu]; simp [go_sem]
                  have hD1 : u.cell? ⟨v.heap.size, 1, none⟩ = some (.slice none 0 0) := by rw [hu]; simp [go_sem]
                  have hDf0 : u.frozen? ⟨v.heap.size, 0, none⟩ = false := by rw [hu]; simp [go_sem]
                  have hDf1 : u.frozen? ⟨v.heap.size, 1, none⟩ = false := by rw [hu]; simp [go_sem]
                  have nOD : g5 ≠ v.heap.size := by omega
                  rw [← hu]
                  obtain ⟨D, hDe⟩ : ∃ z, z = v.heap.size := ⟨_, rfl⟩
                  rw [← hDe] at hD0 hD1 hDf0 hDf1 nOD ⊢
                  have zD : D < u.heap.size := by omega
                  have yD : wE.heap.size ≤ D := by omega
                  clear hu b eu fu hDe
                  refine hK.out _ _ ?_ (fun hHeld => ?_)
                  · exact ⟨p0, p1⟩
                  clear hK K
                  try simp only [List.getElem_toArray, List.getElem_cons_succ, List.getElem_cons_zero, Act.put, List.setIfInBounds_toArray, List.set_cons_zero, List.set_cons_succ]
                  rw [← unhide hGo]
                  exact goTo (N_2_5_10 X g5 c5 D u hbw p0 p1 hO zO yO hD0 hD1 hDf0 hDf1 zD yD nOD) (by kernel_rfl) (by kernel_rfl) (by rw [unhide ha0]; kernel_rfl)
              have N_2_6 : ∀ (X E : Nat) (v : World) (hbw : Hid (Below wE.heap.size wE v)) (p0 : v.cell? ⟨w1.heap.size, 0, none⟩ = some (.int .i64 (m : Int))) (p1 : v.cell? ⟨w1.heap.size, 1, none⟩ = some (.slice a Lc.length cp)) (hX : Hid (v.heap[X]? = some (.cells #[] 30 (0, 0)))) (zX : X < v.heap.size) (yX : wE.heap.size ≤ X) (hE : Hid (Clz.Ok (⟨E, 1, [-1]⟩ : Clz) v 0)) (zE : E < v.heap.size) (yE : wE.heap.size ≤ E) (nXE : X ≠ E), Go 6 #[true, true, true, true, true, false, true, false, false, false, false, false] ((a0.put (some 89) (.slice (some ⟨X, 0, none⟩) 0 0)).put (some 93) (.slice (some ⟨E, 0, none⟩) 1 1)) v := by
                intro X E v hbw p0 p1 hX zX yX hE zE yE nXE
                rw [unhide hGo, unhide ha0]
                try simp only [List.getElem_toArray, List.getElem_cons_succ, List.getElem_cons_zero, Act.put, List.setIfInBounds_toArray, List.set_cons_zero, List.set_cons_succ]
                have hHeld : v.cell? ⟨w1.heap.size, 0, none⟩ = some (.int .i64 (m : Int)) ∧ v.cell? ⟨w1.heap.size, 1, none⟩ = some (.slice a Lc.length cp) := ⟨p0, p1⟩
                refine wpAnyH_ready (rs := [5, 7, 10]) (by kernel_rfl) (by simp) ?_
                refine AllReadyH.cons rfl (fun K hK => ?_) (AllReadyH.cons rfl (fun K hK => ?_) (AllReadyH.cons rfl (fun K hK => ?_) AllReadyH.nil))
                · apply step_clz_copy (R := 0) (Ls := Lc) (base := wE.heap.size)
                  case hgd => rfl
                  case ho => rfl
                  case hty => rfl
                  case hs => rfl
                  case hX => exact unhide hX
                  case hbX => exact yX
                  case hbase => exact (unhide hbw).size
                  case hx => rfl
                  case hc => exact (unhide HC0).later (unhide hbw)
                  case hl => omega
                  case' h => intro g5 c5 u o5 gr5 at5 lt5
                  have mv5 : Mov X _ u := mov_of_grown gr5
                  have hE := hide ((unhide hE).grown (grown_mov mv5) (by simp only [ne_eq, Option.some.injEq]; omega))
                  have zE : E < u.heap.size := Nat.lt_of_lt_of_le zE mv5.size
                  have p0 := mv5.cell p0 (by simp only; omega)
                  have p1 := mv5.cell p1 (by simp only; omega)
                  have hbw := hide ((unhide hbw).trans (mv5.below yX (unhide hbw).size))
                  have hO := hide o5
                  have zO := lt5
                  have yO : wE.heap.size ≤ g5 := own_base o5
                  have nOE : g5 ≠ E := by rcases at5 with e | e <;> omega
                  clear o5 gr5 at5 lt5 mv5
                  refine hK.out _ _ ?_ (fun hHeld => ?_)
                  · exact ⟨p0, p1⟩
                  clear hK K
                  try simp only [List.getElem_toArray, List.getElem_cons_succ, List.getElem_cons_zero, Act.put, List.setIfInBounds_toArray, List.set_cons_zero, List.set_cons_succ]
                  rw [← unhide hGo]
                  exact goTo (N_2_5_6 X g5 c5 E u hbw p0 p1 hO zO yO hE zE yE nOE) (by kernel_rfl) (by kernel_rfl) (by rw [unhide ha0]; kernel_rfl)
                · go_simp
                  obtain ⟨u, hu⟩ : ∃ z, z = v.alloc (.cells #[.slice (some ⟨E, 0, none⟩) 1 1] 30) := ⟨_, rfl⟩
                  have b : Below v.heap.size v u := by rw [hu]; exact (Below.refl _ _).alloc (Nat.le_refl _) _
                  have eu : v.heap.size < u.heap.size := by rw [hu]; simp
                  have fu : wE.heap.size ≤ v.heap.size := (unhide hbw).size
                  have hX : Hid (u.heap[X]? = some (.cells #[] 30 (0, 0))) := (b.block _ (by omega)).trans (unhide hX)
                  have zX : X < u.heap.size := Nat.lt_of_lt_of_le zX b.size
                  have hE := hide ((unhide hE).later b)
                  have zE : E < u.heap.size := Nat.lt_of_lt_of_le zE b.size
                  have hbw := hide ((unhide hbw).trans (b.mono (unhide hbw).size))
                  have p0 := cell_later b p0
                  have p1 := cell_later b p1
                  have hT : u.cell? ⟨v.heap.size, 0, none⟩ = some (.slice (some ⟨E, 0, none⟩) 1 1) := by rw [hu]; simp [go_sem]
                  have nXT : X ≠ v.heap.size := by omega
                  have nET : E ≠ v.heap.size := by omega
                  rw [← hu]
                  obtain ⟨T, hTe⟩ : ∃ z, z = v.heap.size := ⟨_, rfl⟩
                  rw [← hTe] at hT nXT nET ⊢
                  have zT : T < u.heap.size := by omega
                  have yT : wE.heap.size ≤ T := by omega
                  clear hu b eu fu hTe
                  refine hK.out _ _ ?_ (fun hHeld => ?_)
                  · exact ⟨p0, p1⟩
                  clear hK K
                  try simp only [List.getElem_toArray, List.getElem_cons_succ, List.getElem_cons_zero, Act.put, List.setIfInBounds_toArray, List.set_cons_zero, List.set_cons_succ]
                  rw [← unhide hGo]
                  exact goTo (N_2_6_7 X E T u hbw p0 p1 hX zX yX hE zE yE hT zT yT nXE nXT nET) (by kernel_rfl) (by kernel_rfl) (by rw [unhide ha0]; kernel_rfl)
                · go_simp
                  obtain ⟨u, hu⟩ : ∃ z, z = v.alloc (.cells #[.int .i64 0, .slice none 0 0] 25) := ⟨_, rfl⟩
                  have b : Below v.heap.size v u := by rw [hu]; exact (Below.refl _ _).alloc (Nat.le_refl _) _
                  have eu : v.heap.size < u.heap.size := by rw [hu]; simp
                  have fu : wE.heap.size ≤ v.heap.size := (unhide hbw).size
                  have hX : Hid (u.heap[X]? = some (.cells #[] 30 (0, 0))) := (b.block _ (by omega)).trans (unhide hX)
                  have zX : X < u.heap.size := Nat.lt_of_lt_of_le zX b.size
                  have hE := hide ((unhide hE).later b)
                  have zE : E < u.heap.size := Nat.lt_of_lt_of_le zE b.size
                  have hbw := hide ((unhide hbw).trans (b.mono (unhide hbw).size))
                  have p0 := cell_later b p0
                  have p1 := cell_later b p1
                  have hD0 : u.cell? ⟨v.heap.size, 0, none⟩ = some (.int .i64 0) := by rw [hu]; simp [go_sem]
                  have hD1 : u.cell? ⟨v.heap.size, 1, none⟩ = some (.slice none 0 0) := by rw [hu]; simp [go_sem]
                  have hDf0 : u.frozen? ⟨v.heap.size, 0, none⟩ = false := by rw [hu]; simp [go_sem]
                  have hDf1 : u.frozen? ⟨v.heap.size, 1, none⟩ = false := by rw [hu]; simp [go_sem]
                  have nXD : X ≠ v.heap.size := by omega
                  have nED : E ≠ v.heap.size := by omega
                  rw [← hu]
                  obtain ⟨D, hDe⟩ : ∃ z, z = v.heap.size := ⟨_, rfl⟩
                  rw [← hDe] at hD0 hD1 hDf0 hDf1 nXD nED ⊢
                  have zD : D < u.heap.size := by omega
                  have yD : wE.heap.size ≤ D := by omega
                  clear hu b eu fu hDe
                  refine hK.out _ _ ?_ (fun hHeld => ?_)
                  · exact ⟨p0, p1⟩
                  clear hK K
                  try simp only [List.getElem_toArray, List.getElem_cons_succ, List.getElem_cons_zero, Act.put, List.setIfInBounds_toArray, List.set_cons_zero, List.set_cons_succ]
                  rw [← unhide hGo]
                  exact goTo (N_2_6_10 X E D u hbw p0 p1 hX zX yX hE zE yE hD0 hD1 hDf0 hDf1 zD yD nXE nXD nED) (by kernel_rfl) (by kernel_rfl) (by rw [unhide ha0]; kernel_rfl)
              have N_2_10 : ∀ (X D : Nat) (v : World) (hbw : Hid (Below wE.heap.size wE v)) (p0 : v.cell? ⟨w1.heap.size, 0, none⟩ = some (.int .i64 (m : Int))) (p1 : v.cell? ⟨w1.heap.size, 1, none⟩ = some (.slice a Lc.length cp)) (hX : Hid (v.heap[X]? = some (.cells #[] 30 (0, 0)))) (zX : X < v.heap.size) (yX : wE.heap.size ≤ X) (hD0 : v.cell? ⟨D, 0, none⟩ = some (.int .i64 0)) (hD1 : v.cell? ⟨D, 1, none⟩ = some (.slice none 0 0)) (hDf0 : v.frozen? ⟨D, 0, none⟩ = false) (hDf1 : v.frozen? ⟨D, 1, none⟩ = false) (zD : D < v.heap.size) (yD : wE.heap.size ≤ D) (nXD : X ≠ D), Go 6 #[true, true, true, true, true, false, false, false, false, false, true, false] ((a0.put (some 89) (.slice (some ⟨X, 0, none⟩) 0 0)).put (some 8) (.pointer (some ⟨D, 0, none⟩))) v := by
                intro X D v hbw p0 p1 hX zX yX hD0 hD1 hDf0 hDf1 zD yD nXD
                rw [unhide hGo, unhide ha0]
                try simp only [List.getElem_toArray, List.getElem_cons_succ, List.getElem_cons_zero, Act.put, List.setIfInBounds_toArray, List.set_cons_zero, List.set_cons_succ]
                have hHeld : v.cell? ⟨w1.heap.size, 0, none⟩ = some (.int .i64 (m : Int)) ∧ v.cell? ⟨w1.heap.size, 1, none⟩ = some (.slice a Lc.length cp) := ⟨p0, p1⟩
                refine wpAnyH_ready (rs := [5, 6]) (by kernel_rfl) (by simp) ?_
                refine AllReadyH.cons rfl (fun K hK => ?_) (AllReadyH.cons rfl (fun K hK => ?_) AllReadyH.nil)
                · apply step_clz_copy (R := 0) (Ls := Lc) (base := wE.heap.size)
                  case hgd => rfl
                  case ho => rfl
                  case hty => rfl
                  case hs => rfl
                  case hX => exact unhide hX
                  case hbX => exact yX
                  case hbase => exact (unhide hbw).size
                  case hx => rfl
                  case hc => exact (unhide HC0).later (unhide hbw)
                  case hl => omega
                  case' h => intro g5 c5 u o5 gr5 at5 lt5
                  have mv5 : Mov X _ u := mov_of_grown gr5
                  have hD0 := mv5.cell hD0 (by simp only; omega)
                  have hD1 := mv5.cell hD1 (by simp only; omega)
                  have hDf0 := (World.frozen?_of_block (w := v) (a := ⟨D, 0, none⟩) (mv5.2.2.2.2 D zD (by omega))).trans hDf0
                  have hDf1 := (World.frozen?_of_block (w := v) (a := ⟨D, 1, none⟩) (mv5.2.2.2.2 D zD (by omega))).trans hDf1
                  have zD : D < u.heap.size := Nat.lt_of_lt_of_le zD mv5.size
                  have p0 := mv5.cell p0 (by simp only; omega)
                  have p1 := mv5.cell p1 (by simp only; omega)
                  have hbw := hide ((unhide hbw).trans (mv5.below yX (unhide hbw).size))
                  have hO := hide o5
                  have zO := lt5
                  have yO : wE.heap.size ≤ g5 := own_base o5
                  have nOD : g5 ≠ D := by rcases at5 with e | e <;> omega
                  clear o5 gr5 at5 lt5 mv5
                  refine hK.out _ _ ?_ (fun hHeld => ?_)
                  · exact ⟨p0, p1⟩
                  clear hK K
                  try simp only [List.getElem_toArray, List.getElem_cons_succ, List.getElem_cons_zero, Act.put, List.setIfInBounds_toArray, List.set_cons_zero, List.set_cons_succ]
                  rw [← unhide hGo]
                  exact goTo (N_2_5_10 X g5 c5 D u hbw p0 p1 hO zO yO hD0 hD1 hDf0 hDf1 zD yD nOD) (by kernel_rfl) (by kernel_rfl) (by rw [unhide ha0]; kernel_rfl)
                · go_simp
                  obtain ⟨u, hu⟩ : ∃ z, z = v.alloc (.cells #[.int .i64 (-1)] 3) := ⟨_, rfl⟩
                  have b : Below v.heap.size v u := by rw [hu]; exact (Below.refl _ _).alloc (Nat.le_refl _) _
                  have eu : v.heap.size < u.heap.size := by rw [hu]; simp
                  have fu : wE.heap.size ≤ v.heap.size := (unhide hbw).size
                  have hX : Hid (u.heap[X]? = some (.cells #[] 30 (0, 0))) := (b.block _ (by omega)).trans (unhide hX)
                  have zX : X < u.heap.size := Nat.lt_of_lt_of_le zX b.size
                  have hD0 := cell_later b hD0
                  have hD1 := cell_later b hD1
                  have hDf0 := (b.frozen (p := ⟨D, 0, none⟩) zD).trans hDf0
                  have hDf1 := (b.frozen (p := ⟨D, 1, none⟩) zD).trans hDf1
                  have zD : D < u.heap.size := Nat.lt_of_lt_of_le zD b.size
                  have hbw := hide ((unhide hbw).trans (b.mono (unhide hbw).size))
                  have p0 := cell_later b p0
                  have p1 := cell_later b p1
                  have hE : Hid (Clz.Ok (⟨v.heap.size, 1, [-1]⟩ : Clz) u 0) := by show Clz.Ok _ _ _; rw [hu]; exact clz_lit v 0 #[.int .i64 (-1)] [-1] rfl (by omega) (by simp) (unhide hLit)
                  have nXE : X ≠ v.heap.size := by omega
                  have nED : v.heap.size ≠ D := by omega
                  rw [← hu]
                  obtain ⟨E, hEe⟩ : ∃ z, z = v.heap.size := ⟨_, rfl⟩
                  rw [← hEe] at hE nXE nED ⊢
                  have zE : E < u.heap.size := by omega
                  have yE : wE.heap.size ≤ E := by omega
                  clear hu b eu fu hEe
                  refine hK.out _ _ ?_ (fun hHeld => ?_)
                  · exact ⟨p0, p1⟩
                  clear hK K
                  try simp only [List.getElem_toArray, List.getElem_cons_succ, List.getElem_cons_zero, Act.put, List.setIfInBounds_toArray, List.set_cons_zero, List.set_cons_succ]
                  rw [← unhide hGo]
                  exact goTo (N_2_6_10 X E D u hbw p0 p1 hX zX yX hE zE yE hD0 hD1 hDf0 hDf1 zD yD nXE nXD nED) (by kernel_rfl) (by kernel_rfl) (by rw [unhide ha0]; kernel_rfl)
              have N_6_7 : ∀ (E T : Nat) (v : World) (hbw : Hid (Below wE.heap.size wE v)) (p0 : v.cell? ⟨w1.heap.size, 0, none⟩ = some (.int .i64 (m : Int))) (p1 : v.cell? ⟨w1.heap.size, 1, none⟩ = some (.slice a Lc.length cp)) (hE : Hid (Clz.Ok (⟨E, 1, [-1]⟩ : Clz) v 0)) (zE : E < v.heap.size) (yE : wE.heap.size ≤ E) (hT : v.cell? ⟨T, 0, none⟩ = some (.slice (some ⟨E, 0, none⟩) 1 1)) (zT : T < v.heap.size) (yT : wE.heap.size ≤ T) (nET : E ≠ T), Go 6 #[true, true, false, true, true, false, true, true, false, false, false, false] ((a0.put (some 93) (.slice (some ⟨E, 0, none⟩) 1 1)).put (some 94) (.slice (some ⟨T, 0, none⟩) 1 1)) v := by
                intro E T v hbw p0 p1 hE zE yE hT zT yT nET
                rw [unhide hGo, unhide ha0]
                try simp only [List.getElem_toArray, List.getElem_cons_succ, List.getElem_cons_zero, Act.put, List.setIfInBounds_toArray, List.set_cons_zero, List.set_cons_succ]
                have hHeld : v.cell? ⟨w1.heap.size, 0, none⟩ = some (.int .i64 (m : Int)) ∧ v.cell? ⟨w1.heap.size, 1, none⟩ = some (.slice a Lc.length cp) := ⟨p0, p1⟩
                refine wpAnyH_ready (rs := [2, 10]) (by kernel_rfl) (by simp) ?_
                refine AllReadyH.cons rfl (fun K hK => ?_) (AllReadyH.cons rfl (fun K hK => ?_) AllReadyH.nil)
                · go_simp
                  obtain ⟨u, hu⟩ : ∃ z, z = v.alloc (.cells #[] 30) := ⟨_, rfl⟩
                  have b : Below v.heap.size v u := by rw [hu]; exact (Below.refl _ _).alloc (Nat.le_refl _) _
                  have eu : v.heap.size < u.heap.size := by rw [hu]; simp
                  have fu : wE.heap.size ≤ v.heap.size := (unhide hbw).size
                  have hE := hide ((unhide hE).later b)
                  have zE : E < u.heap.size := Nat.lt_of_lt_of_le zE b.size
                  have hT := cell_later b hT
                  have zT : T < u.heap.size := Nat.lt_of_lt_of_le zT b.size
                  have hbw := hide ((unhide hbw).trans (b.mono (unhide hbw).size))
                  have p0 := cell_later b p0
                  have p1 := cell_later b p1
                  have hX : Hid (u.heap[v.heap.size]? = some (.cells #[] 30 (0, 0))) := by show _ = _; rw [hu]; exact alloc_at rfl
                  have nXE : v.heap.size ≠ E := by omega
                  have nXT : v.heap.size ≠ T := by omega
                  rw [← hu]
                  obtain ⟨X, hXe⟩ : ∃ z, z = v.heap.size := ⟨_, rfl⟩
                  rw [← hXe] at hX nXE nXT ⊢
                  have zX : X < u.heap.size := by omega
                  have yX : wE.heap.size ≤ X := by omega
                  clear hu b eu fu hXe
                  refine hK.out _ _ ?_ (fun hHeld => ?_)
                  · exact ⟨p0, p1⟩
                  clear hK K
                  try simp only [List.getElem_toArray, List.getElem_cons_succ, List.getElem_cons_zero, Act.put, List.setIfInBounds_toArray, List.set_cons_zero, List.set_cons_succ]
                  rw [← unhide hGo]
                  exact goTo (N_2_6_7 X E T u hbw p0 p1 hX zX yX hE zE yE hT zT yT nXE nXT nET) (by kernel_rfl) (by kernel_rfl) (by rw [unhide ha0]; kernel_rfl)
                · go_simp
                  obtain ⟨u, hu⟩ : ∃ z, z = v.alloc (.cells #[.int .i64 0, .slice none 0 0] 25) := ⟨_, rfl⟩
                  have b : Below v.heap.size v u := by rw [hu]; exact (Below.refl _ _).alloc (Nat.le_refl _) _
                  have eu : v.heap.size < u.heap.size := by rw [hu]; simp
                  have fu : wE.heap.size ≤ v.heap.size := (unhide hbw).size
                  have hE := hide ((unhide hE).later b)
                  have zE : E < u.heap.size := Nat.lt_of_lt_of_le zE b.size
                  have hT := cell_later b hT
                  have zT : T < u.heap.size := Nat.lt_of_lt_of_le zT b.size
                  have hbw := hide ((unhide hbw).trans (b.mono (unhide hbw).size))
                  have p0 := cell_later b p0
                  have p1 := cell_later b p1
                  have hD0 : u.cell? ⟨v.heap.size, 0, none⟩ = some (.int .i64 0) := by rw [hu]; simp [go_sem]
                  have hD1 : u.cell? ⟨v.heap.size, 1, none⟩ = some (.slice none 0 0) := by rw [hu]; simp [go_sem]
                  have hDf0 : u.frozen? ⟨v.heap.size, 0, none⟩ = false := by rw [hu]; simp [go_sem]
                  have hDf1 : u.frozen? ⟨v.heap.size, 1, none⟩ = false := by rw [hu]; simp [go_sem]
                  have nED : E ≠ v.heap.size := by omega
                  have nTD : T ≠ v.heap.size := by omega
                  rw [← hu]
                  obtain ⟨D, hDe⟩ : ∃ z, z = v.heap.size := ⟨_, rfl⟩
                  rw [← hDe] at hD0 hD1 hDf0 hDf1 nED nTD ⊢
                  have zD : D < u.heap.size := by omega
                  have yD : wE.heap.size ≤ D := by omega
                  clear hu b eu fu hDe
                  refine hK.out _ _ ?_ (fun hHeld => ?_)
                  · exact ⟨p0, p1⟩
                  clear hK K
                  try simp only [List.getElem_toArray, List.getElem_cons_succ, List.getElem_cons_zero, Act.put, List.setIfInBounds_toArray, List.set_cons_zero, List.set_cons_succ]
                  rw [← unhide hGo]
                  exact goTo (N_6_7_10 E T D u hbw p0 p1 hE zE yE hT zT yT hD0 hD1 hDf0 hDf1 zD yD nET nED nTD) (by kernel_rfl) (by kernel_rfl) (by rw [unhide ha0]; kernel_rfl)
              have N_6_10 : ∀ (E D : Nat) (v : World) (hbw : Hid (Below wE.heap.size wE v)) (p0 : v.cell? ⟨w1.heap.size, 0, none⟩ = some (.int .i64 (m : Int))) (p1 : v.cell? ⟨w1.heap.size, 1, none⟩ = some (.slice a Lc.length cp)) (hE : Hid (Clz.Ok (⟨E, 1, [-1]⟩ : Clz) v 0)) (zE : E < v.heap.size) (yE : wE.heap.size ≤ E) (hD0 : v.cell? ⟨D, 0, none⟩ = some (.int .i64 0)) (hD1 : v.cell? ⟨D, 1, none⟩ = some (.slice none 0 0)) (hDf0 : v.frozen? ⟨D, 0, none⟩ = false) (hDf1 : v.frozen? ⟨D, 1, none⟩ = false) (zD : D < v.heap.size) (yD : wE.heap.size ≤ D) (nED : E ≠ D), Go 6 #[true, true, false, true, true, false, true, false, false, false, true, false] ((a0.put (some 93) (.slice (some ⟨E, 0, none⟩) 1 1)).put (some 8) (.pointer (some ⟨D, 0, none⟩))) v := by
                intro E D v hbw p0 p1 hE zE yE hD0 hD1 hDf0 hDf1 zD yD nED
                rw [unhide hGo, unhide ha0]
                try simp only [List.getElem_toArray, List.getElem_cons_succ, List.getElem_cons_zero, Act.put, List.setIfInBounds_toArray, List.set_cons_zero, List.set_cons_succ]
                have hHeld : v.cell? ⟨w1.heap.size, 0, none⟩ = some (.int .i64 (m : Int)) ∧ v.cell? ⟨w1.heap.size, 1, none⟩ = some (.slice a Lc.length cp) := ⟨p0, p1⟩
                refine wpAnyH_ready (rs := [2, 7]) (by kernel_rfl) (by simp) ?_
                refine AllReadyH.cons rfl (fun K hK => ?_) (AllReadyH.cons rfl (fun K hK => ?_) AllReadyH.nil)
                · go_simp
                  obtain ⟨u, hu⟩ : ∃ z, z = v.alloc (.cells #[] 30) := ⟨_, rfl⟩
                  have b : Below v.heap.size v u := by rw [hu]; exact (Below.refl _ _).alloc (Nat.le_refl _) _
                  have eu : v.heap.size < u.heap.size := by rw [hu]; simp
                  have fu : wE.heap.size ≤ v.heap.size := (unhide hbw).size
                  have hE := hide ((unhide hE).later b)
                  have zE : E < u.heap.size := Nat.lt_of_lt_of_le zE b.size
                  have hD0 := cell_later b hD0
                  have hD1 := cell_later b hD1
                  have hDf0 := (b.frozen (p := ⟨D, 0, none⟩) zD).trans hDf0
                  have hDf1 := (b.frozen (p := ⟨D, 1, none⟩) zD).trans hDf1
                  have zD : D < u.heap.size := Nat.lt_of_lt_of_le zD b.size
                  have hbw := hide ((unhide hbw).trans (b.mono (unhide hbw).size))
                  have p0 := cell_later b p0
                  have p1 := cell_later b p1
                  have hX : Hid (u.heap[v.heap.size]? = some (.cells #[] 30 (0, 0))) := by show _ = _; rw [hu]; exact alloc_at rfl
                  have nXE : v.heap.size ≠ E := by omega
                  have nXD : v.heap.size ≠ D := by omega
                  rw [← hu]
                  obtain ⟨X, hXe⟩ : ∃ z, z = v.heap.size := ⟨_, rfl⟩
                  rw [← hXe] at hX nXE nXD ⊢
                  have zX : X < u.heap.size := by omega
                  have yX : wE.heap.size ≤ X := by omega
                  clear hu b eu fu hXe
                  refine hK.out _ _ ?_ (fun hHeld => ?_)
                  · exact ⟨p0, p1⟩
                  clear hK K
                  try simp only [List.getElem_toArray, List.getElem_cons_succ, List.getElem_cons_zero, Act.put, List.setIfInBounds_toArray, List.set_cons_zero, List.set_cons_succ]
                  rw [← unhide hGo]
                  exact goTo (N_2_6_10 X E D u hbw p0 p1 hX zX yX hE zE yE hD0 hD1 hDf0 hDf1 zD yD nXE nXD nED) (by kernel_rfl) (by kernel_rfl) (by rw [unhide ha0]; kernel_rfl)
                · go_simp
                  obtain ⟨u, hu⟩ : ∃ z, z = v.alloc (.cells #[.slice (some ⟨E, 0, none⟩) 1 1] 30) := ⟨_, rfl⟩
                  have b : Below v.heap.size v u := by rw [hu]; exact (Below.refl _ _).alloc (Nat.le_refl _) _
                  have eu : v.heap.size < u.heap.size := by rw [hu]; simp
                  have fu : wE.heap.size ≤ v.heap.size := (unhide hbw).size
                  have hE := hide ((unhide hE).later b)
                  have zE : E < u.heap.size := Nat.lt_of_lt_of_le zE b.size
                  have hD0 := cell_later b hD0
                  have hD1 := cell_later b hD1
                  have hDf0 := (b.frozen (p := ⟨D, 0, none⟩) zD).trans hDf0
                  have hDf1 := (b.frozen (p := ⟨D, 1, none⟩) zD).trans hDf1
                  have zD : D < u.heap.size := Nat.lt_of_lt_of_le zD b.size
                  have hbw := hide ((unhide hbw).trans (b.mono (unhide hbw).size))
                  have p0 := cell_later b p0
                  have p1 := cell_later b p1
                  have hT : u.cell? ⟨v.heap.size, 0, none⟩ = some (.slice (some ⟨E, 0, none⟩) 1 1) := by rw [hu]; simp [go_sem]
                  have nET : E ≠ v.heap.size := by omega
                  have nTD : v.heap.size ≠ D := by omega
                  rw [← hu]
                  obtain ⟨T, hTe⟩ : ∃ z, z = v.heap.size := ⟨_, rfl⟩
                  rw [← hTe] at hT nET nTD ⊢
                  have zT : T < u.heap.size := by omega
                  have yT : wE.heap.size ≤ T := by omega
                  clear hu b eu fu hTe
                  refine hK.out _ _ ?_ (fun hHeld => ?_)
                  · exact ⟨p0, p1⟩
                  clear hK K
                  try simp only [List.getElem_toArray, List.getElem_cons_succ, List.getElem_cons_zero, Act.put, List.setIfInBounds_toArray, List.set_cons_zero, List.set_cons_succ]
                  rw [← unhide hGo]
                  exact goTo (N_6_7_10 E T D u hbw p0 p1 hE zE yE hT zT yT hD0 hD1 hDf0 hDf1 zD yD nET nED nTD) (by kernel_rfl) (by kernel_rfl) (by rw [unhide ha0]; kernel_rfl)
              have N_2 : ∀ (X : Nat) (v : World) (hbw : Hid (Below wE.heap.size wE v)) (p0 : v.cell? ⟨w1.heap.size, 0, none⟩ = some (.int .i64 (m : Int))) (p1 : v.cell? ⟨w1.heap.size, 1, none⟩ = some (.slice a Lc.length cp)) (hX : Hid (v.heap[X]? = some (.cells #[] 30 (0, 0)))) (zX : X < v.heap.size) (yX : wE.heap.size ≤ X), Go 7 #[true, true, true, true, true, false, false, false, false, false, false, false] (a0.put (some 89) (.slice (some ⟨X, 0, none⟩) 0 0)) v := by
                intro X v hbw p0 p1 hX zX yX
                rw [unhide hGo, unhide ha0]
                try simp only [List.getElem_toArray, List.getElem_cons_succ, List.getElem_cons_zero, Act.put, List.setIfInBounds_toArray, List.set_cons_zero, List.set_cons_succ]
                have hHeld : v.cell? ⟨w1.heap.size, 0, none⟩ = some (.int .i64 (m : Int)) ∧ v.cell? ⟨w1.heap.size, 1, none⟩ = some (.slice a Lc.length cp) := ⟨p0, p1⟩
                refine wpAnyH_ready (rs := [5, 6, 10]) (by kernel_rfl) (by simp) ?_
                refine AllReadyH.cons rfl (fun K hK => ?_) (AllReadyH.cons rfl (fun K hK => ?_) (AllReadyH.cons rfl (fun K hK => ?_) AllReadyH.nil))
                · apply step_clz_copy (R := 0) (Ls := Lc) (base := wE.heap.size)
                  case hgd => rfl
                  case ho => rfl
                  case hty => rfl
                  case hs => rfl
                  case hX => exact unhide hX
                  case hbX => exact yX
                  case hbase => exact (unhide hbw).size
                  case hx => rfl
                  case hc => exact (unhide HC0).later (unhide hbw)
                  case hl => omega
                  case' h => intro g5 c5 u o5 gr5 at5 lt5
                  have mv5 : Mov X _ u := mov_of_grown gr5
                  have p0 := mv5.cell p0 (by simp only; omega)
                  have p1 := mv5.cell p1 (by simp only; omega)
                  have hbw := hide ((unhide hbw).trans (mv5.below yX (unhide hbw).size))
                  have hO := hide o5
                  have zO := lt5
                  have yO : wE.heap.size ≤ g5 := own_base o5
                  clear o5 gr5 at5 lt5 mv5
                  refine hK.out _ _ ?_ (fun hHeld => ?_)
                  · exact ⟨p0, p1⟩
                  clear hK K
                  try simp only [List.getElem_toArray, List.getElem_cons_succ, List.getElem_cons_zero, Act.put, List.setIfInBounds_toArray, List.set_cons_zero, List.set_cons_succ]
                  rw [← unhide hGo]
                  exact goTo (N_2_5 X g5 c5 u hbw p0 p1 hO zO yO) (by kernel_rfl) (by kernel_rfl) (by rw [unhide ha0]; kernel_rfl)
                · go_simp
                  obtain ⟨u, hu⟩ : ∃ z, z = v.alloc (.cells #[.int .i64 (-1)] 3) := ⟨_, rfl⟩
                  have b : Below v.heap.size v u := by rw [hu]; exact (Below.refl _ _).alloc (Nat.le_refl _) _
                  have eu : v.heap.size < u.heap.size := by rw [hu]; simp
                  have fu : wE.heap.size ≤ v.heap.size := (unhide hbw).size
                  have hX : Hid (u.heap[X]? = some (.cells #[] 30 (0, 0))) := (b.block _ (by omega)).trans (unhide hX)
                  have zX : X < u.heap.size := Nat.lt_of_lt_of_le zX b.size
                  have hbw := hide ((unhide hbw).trans (b.mono (unhide hbw).size))
                  have p0 := cell_later b p0
                  have p1 := cell_later b p1
                  have hE : Hid (Clz.Ok (⟨v.heap.size, 1, [-1]⟩ : Clz) u 0) := by show Clz.Ok _ _ _; rw [hu]; exact clz_lit v 0 #[.int .i64 (-1)] [-1] rfl (by omega) (by simp) (unhide hLit)
                  have nXE : X ≠ v.heap.size := by omega
                  rw [← hu]
                  obtain ⟨E, hEe⟩ : ∃ z, z = v.heap.size := ⟨_, rfl⟩
                  rw [← hEe] at hE nXE ⊢
                  have zE : E < u.heap.size := by omega
                  have yE : wE.heap.size ≤ E := by omega
                  clear hu b eu fu hEe
                  refine hK.out _ _ ?_ (fun hHeld => ?_)
                  · exact ⟨p0, p1⟩
                  clear hK K
                  try simp only [List.getElem_toArray, List.getElem_cons_succ, List.getElem_cons_zero, Act.put, List.setIfInBounds_toArray, List.set_cons_zero, List.set_cons_succ]
                  rw [← unhide hGo]
                  exact goTo (N_2_6 X E u hbw p0 p1 hX zX yX hE zE yE nXE) (by kernel_rfl) (by kernel_rfl) (by rw [unhide ha0]; kernel_rfl)
                · go_simp
                  obtain ⟨u, hu⟩ : ∃ z, z = v.alloc (.cells #[.int .i64 0, .slice none 0 0] 25) := ⟨_, rfl⟩
                  have b : Below v.heap.size v u := by rw [hu]; exact (Below.refl _ _).alloc (Nat.le_refl _) _
                  have eu : v.heap.size < u.heap.size := by rw [hu]; simp
                  have fu : wE.heap.size ≤ v.heap.size := (unhide hbw).size
                  have hX : Hid (u.heap[X]? = some (.cells #[] 30 (0, 0))) := (b.block _ (by omega)).trans (unhide hX)
                  have zX : X < u.heap.size := Nat.lt_of_lt_of_le zX b.size
                  have hbw := hide ((unhide hbw).trans (b.mono (unhide hbw).size))
                  have p0 := cell_later b p0
                  have p1 := cell_later b p1
                  have hD0 : u.cell? ⟨v.heap.size, 0, none⟩ = some (.int .i64 0) := by rw [hu]; simp [go_sem]
                  have hD1 : u.cell? ⟨v.heap.size, 1, none⟩ = some (.slice none 0 0) := by rw [hu]; simp [go_sem]
                  have hDf0 : u.frozen? ⟨v.heap.size, 0, none⟩ = false := by rw [hu]; simp [go_sem]
                  have hDf1 : u.frozen? ⟨v.heap.size, 1, none⟩ = false := by rw [hu]; simp [go_sem]
                  have nXD : X ≠ v.heap.size := by omega
                  rw [← hu]
                  obtain ⟨D, hDe⟩ : ∃ z, z = v.heap.size := ⟨_, rfl⟩
                  rw [← hDe] at hD0 hD1 hDf0 hDf1 nXD ⊢
                  have zD : D < u.heap.size := by omega
                  have yD : wE.heap.size ≤ D := by omega
                  clear hu b eu fu hDe
                  refine hK.out _ _ ?_ (fun hHeld => ?_)
                  · exact ⟨p0, p1⟩
                  clear hK K
                  try simp only [List.getElem_toArray, List.getElem_cons_succ, List.getElem_cons_zero, Act.put, List.setIfInBounds_toArray, List.set_cons_zero, List.set_cons_succ]
                  rw [← unhide hGo]
                  exact goTo (N_2_10 X D u hbw p0 p1 hX zX yX hD0 hD1 hDf0 hDf1 zD yD nXD) (by kernel_rfl) (by kernel_rfl) (by rw [unhide ha0]; kernel_rfl)
              have N_6 : ∀ (E : Nat) (v : World) (hbw : Hid (Below wE.heap.size wE v)) (p0 : v.cell? ⟨w1.heap.size, 0, none⟩ = some (.int .i64 (m : Int))) (p1 : v.cell? ⟨w1.heap.size, 1, none⟩ = some (.slice a Lc.length cp)) (hE : Hid (Clz.Ok (⟨E, 1, [-1]⟩ : Clz) v 0)) (zE : E < v.heap.size) (yE : wE.heap.size ≤ E), Go 7 #[true, true, false, true, true, false, true, false, false, false, false, false] (a0.put (some 93) (.slice (some ⟨E, 0, none⟩) 1 1)) v := by
                intro E v hbw p0 p1 hE zE yE
                rw [unhide hGo, unhide ha0]
                try simp only [List.getElem_toArray, List.getElem_cons_succ, List.getElem_cons_zero, Act.put, List.setIfInBounds_toArray, List.set_cons_zero, List.set_cons_succ]
                have hHeld : v.cell? ⟨w1.heap.size, 0, none⟩ = some (.int .i64 (m : Int)) ∧ v.cell? ⟨w1.heap.size, 1, none⟩ = some (.slice a Lc.length cp) := ⟨p0, p1⟩
                refine wpAnyH_ready (rs := [2, 7, 10]) (by kernel_rfl) (by simp) ?_
                refine AllReadyH.cons rfl (fun K hK => ?_) (AllReadyH.cons rfl (fun K hK => ?_) (AllReadyH.cons rfl (fun K hK => ?_) AllReadyH.nil))
                · go_simp
                  obtain ⟨u, hu⟩ : ∃ z, z = v.alloc (.cells #[] 30) := ⟨_, rfl⟩
                  have b : Below v.heap.size v u := by rw [hu]; exact (Below.refl _ _).alloc (Nat.le_refl _) _
                  have eu : v.heap.size < u.heap.size := by rw [hu]; simp
                  have fu : wE.heap.size ≤ v.heap.size := (unhide hbw).size
                  have hE := hide ((unhide hE).later b)
                  have zE : E < u.heap.size := Nat.lt_of_lt_of_le zE b.size
                  have hbw := hide ((unhide hbw).trans (b.mono (unhide hbw).size))
                  have p0 := cell_later b p0
                  have p1 := cell_later b p1
                  have hX : Hid (u.heap[v.heap.size]? = some (.cells #[] 30 (0, 0))) := by show _ = _; rw [hu]; exact alloc_at rfl
                  have nXE : v.heap.size ≠ E := by omega
                  rw [← hu]
                  obtain ⟨X, hXe⟩ : ∃ z, z = v.heap.size := ⟨_, rfl⟩
                  rw [← hXe] at hX nXE ⊢
                  have zX : X < u.heap.size := by omega
                  have yX : wE.heap.size ≤ X := by omega
                  clear hu b eu fu hXe
                  refine hK.out _ _ ?_ (fun hHeld => ?_)
                  · exact ⟨p0, p1⟩
                  clear hK K
                  try simp only [List.getElem_toArray, List.getElem_cons_succ, List.getElem_cons_zero, Act.put, List.setIfInBounds_toArray, List.set_cons_zero, List.set_cons_succ]
                  rw [← unhide hGo]
                  exact goTo (N_2_6 X E u hbw p0 p1 hX zX yX hE zE yE nXE) (by kernel_rfl) (by kernel_rfl) (by rw [unhide ha0]; kernel_rfl)
                · go_simp
                  obtain ⟨u, hu⟩ : ∃ z, z = v.alloc (.cells #[.slice (some ⟨E, 0, none⟩) 1 1] 30) := ⟨_, rfl⟩
                  have b : Below v.heap.size v u := by rw [hu]; exact (Below.refl _ _).alloc (Nat.le_refl _) _
                  have eu : v.heap.size < u.heap.size := by rw [hu]; simp
                  have fu : wE.heap.size ≤ v.heap.size := (unhide hbw).size
                  have hE := hide ((unhide hE).later b)
                  have zE : E < u.heap.size := Nat.lt_of_lt_of_le zE b.size
                  have hbw := hide ((unhide hbw).trans (b.mono (unhide hbw).size))
                  have p0 := cell_later b p0
                  have p1 := cell_later b p1
                  have hT : u.cell? ⟨v.heap.size, 0, none⟩ = some (.slice (some ⟨E, 0, none⟩) 1 1) := by rw [hu]; simp [go_sem]
                  have nET : E ≠ v.heap.size := by omega
                  rw [← hu]
                  obtain ⟨T, hTe⟩ : ∃ z, z = v.heap.size := ⟨_, rfl⟩
                  rw [← hTe] at hT nET ⊢
                  have zT : T < u.heap.size := by omega
                  have yT : wE.heap.size ≤ T := by omega
                  clear hu b eu fu hTe
                  refine hK.out _ _ ?_ (fun hHeld => ?_)
                  · exact ⟨p0, p1⟩
                  clear hK K
                  try simp only [List.getElem_toArray, List.getElem_cons_succ, List.getElem_cons_zero, Act.put, List.setIfInBounds_toArray, List.set_cons_zero, List.set_cons_succ]
                  rw [← unhide hGo]
                  exact goTo (N_6_7 E T u hbw p0 p1 hE zE yE hT zT yT nET) (by kernel_rfl) (by kernel_rfl) (by rw [unhide ha0]; kernel_rfl)
                · go_simp
                  obtain ⟨u, hu⟩ : ∃ z, z = v.alloc (.cells #[.int .i64 0, .slice none 0 0] 25) := ⟨_, rfl⟩
                  have b : Below v.heap.size v u := by rw [hu]; exact (Below.refl _ _).alloc (Nat.le_refl _) _
                  have eu : v.heap.size < u.heap.size := by rw [hu]; simp
                  have fu : wE.heap.size ≤ v.heap.size := (unhide hbw).size
                  have hE := hide ((unhide hE).later b)
                  have zE : E < u.heap.size := Nat.lt_of_lt_of_le zE b.size
                  have hbw := hide ((unhide hbw).trans (b.mono (unhide hbw).size))
                  have p0 := cell_later b p0
                  have p1 := cell_later b p1
                  have hD0 : u.cell? ⟨v.heap.size, 0, none⟩ = some (.int .i64 0) := by rw [hu]; simp [go_sem]
                  have hD1 : u.cell? ⟨v.heap.size, 1, none⟩ = some (.slice none 0 0) := by rw [hu]; simp [go_sem]
                  have hDf0 : u.frozen? ⟨v.heap.size, 0, none⟩ = false := by rw [hu]; simp [go_sem]
                  have hDf1 : u.frozen? ⟨v.heap.size, 1, none⟩ = false := by rw [hu]; simp [go_sem]
                  have nED : E ≠ v.heap.size := by omega
                  rw [← hu]
                  obtain ⟨D, hDe⟩ : ∃ z, z = v.heap.size := ⟨_, rfl⟩
                  rw [← hDe] at hD0 hD1 hDf0 hDf1 nED ⊢
                  have zD : D < u.heap.size := by omega
                  have yD : wE.heap.size ≤ D := by omega
                  clear hu b eu fu hDe
                  refine hK.out _ _ ?_ (fun hHeld => ?_)
                  · exact ⟨p0, p1⟩
                  clear hK K
                  try simp only [List.getElem_toArray, List.getElem_cons_succ, List.getElem_cons_zero, Act.put, List.setIfInBounds_toArray, List.set_cons_zero, List.set_cons_succ]
                  rw [← unhide hGo]
                  exact goTo (N_6_10 E D u hbw p0 p1 hE zE yE hD0 hD1 hDf0 hDf1 zD yD nED) (by kernel_rfl) (by kernel_rfl) (by rw [unhide ha0]; kernel_rfl)
              have N_10 : ∀ (D : Nat) (v : World) (hbw : Hid (Below wE.heap.size wE v)) (p0 : v.cell? ⟨w1.heap.size, 0, none⟩ = some (.int .i64 (m : Int))) (p1 : v.cell? ⟨w1.heap.size, 1, none⟩ = some (.slice a Lc.length cp)) (hD0 : v.cell? ⟨D, 0, none⟩ = some (.int .i64 0)) (hD1 : v.cell? ⟨D, 1, none⟩ = some (.slice none 0 0)) (hDf0 : v.frozen? ⟨D, 0, none⟩ = false) (hDf1 : v.frozen? ⟨D, 1, none⟩ = false) (zD : D < v.heap.size) (yD : wE.heap.size ≤ D), Go 7 #[true, true, false, true, true, false, false, false, false, false, true, false] (a0.put (some 8) (.pointer (some ⟨D, 0, none⟩))) v := by
                intro D v hbw p0 p1 hD0 hD1 hDf0 hDf1 zD yD
                rw [unhide hGo, unhide ha0]
                try simp only [List.getElem_toArray, List.getElem_cons_succ, List.getElem_cons_zero, Act.put, List.setIfInBounds_toArray, List.set_cons_zero, List.set_cons_succ]
                have hHeld : v.cell? ⟨w1.heap.size, 0, none⟩ = some (.int .i64 (m : Int)) ∧ v.cell? ⟨w1.heap.size, 1, none⟩ = some (.slice a Lc.length cp) := ⟨p0, p1⟩
                refine wpAnyH_ready (rs := [2, 6]) (by kernel_rfl) (by simp) ?_
                refine AllReadyH.cons rfl (fun K hK => ?_) (AllReadyH.cons rfl (fun K hK => ?_) AllReadyH.nil)
                · go_simp
                  obtain ⟨u, hu⟩ : ∃ z, z = v.alloc (.cells #[] 30) := ⟨_, rfl⟩
                  have b : Below v.heap.size v u := by rw [hu]; exact (Below.refl _ _).alloc (Nat.le_refl _) _
                  have eu : v.heap.size < u.heap.size := by rw [hu]; simp
                  have fu : wE.heap.size ≤ v.heap.size := (unhide hbw).size
                  have hD0 := cell_later b hD0
                  have hD1 := cell_later b hD1
                  have hDf0 := (b.frozen (p := ⟨D, 0, none⟩) zD).trans hDf0
                  have hDf1 := (b.frozen (p := ⟨D, 1, none⟩) zD).trans hDf1
                  have zD : D < u.heap.size := Nat.lt_of_lt_of_le zD b.size
                  have hbw := hide ((unhide hbw).trans (b.mono (unhide hbw).size))
                  have p0 := cell_later b p0
                  have p1 := cell_later b p1
                  have hX : Hid (u.heap[v.heap.size]? = some (.cells #[] 30 (0, 0))) := by show _ = _; rw [hu]; exact alloc_at rfl
                  have nXD : v.heap.size ≠ D := by omega
                  rw [← hu]
                  obtain ⟨X, hXe⟩ : ∃ z, z = v.heap.size := ⟨_, rfl⟩
                  rw [← hXe] at hX nXD ⊢
                  have zX : X < u.heap.size := by omega
                  have yX : wE.heap.size ≤ X := by omega
                  clear hu b eu fu hXe
                  refine hK.out _ _ ?_ (fun hHeld => ?_)
                  · exact ⟨p0, p1⟩
                  clear hK K
                  try simp only [List.getElem_toArray, List.getElem_cons_succ, List.getElem_cons_zero, Act.put, List.setIfInBounds_toArray, List.set_cons_zero, List.set_cons_succ]
                  rw [← unhide hGo]
                  exact goTo (N_2_10 X D u hbw p0 p1 hX zX yX hD0 hD1 hDf0 hDf1 zD yD nXD) (by kernel_rfl) (by kernel_rfl) (by rw [unhide ha0]; kernel_rfl)
                · go_simp
                  obtain ⟨u, hu⟩ : ∃ z, z = v.alloc (.cells #[.int .i64 (-1)] 3) := ⟨_, rfl⟩
                  have b : Below v.heap.size v u := by rw [hu]; exact (Below.refl _ _).alloc (Nat.le_refl _) _
                  have eu : v.heap.size < u.heap.size := by rw [hu]; simp
                  have fu : wE.heap.size ≤ v.heap.size := (unhide hbw).size
                  have hD0 := cell_later b hD0
                  have hD1 := cell_later b hD1
                  have hDf0 := (b.frozen (p := ⟨D, 0, none⟩) zD).trans hDf0
                  have hDf1 := (b.frozen (p := ⟨D, 1, none⟩) zD).trans hDf1
                  have zD : D < u.heap.size := Nat.lt_of_lt_of_le zD b.size
                  have hbw := hide ((unhide hbw).trans (b.mono (unhide hbw).size))
                  have p0 := cell_later b p0
                  have p1 := cell_later b p1
                  have hE : Hid (Clz.Ok (⟨v.heap.size, 1, [-1]⟩ : Clz) u 0) := by show Clz.Ok _ _ _; rw [hu]; exact clz_lit v 0 #[.int .i64 (-1)] [-1] rfl (by omega) (by simp) (unhide hLit)
                  have nED : v.heap.size ≠ D := by omega
                  rw [← hu]
                  obtain ⟨E, hEe⟩ : ∃ z, z = v.heap.size := ⟨_, rfl⟩
                  rw [← hEe] at hE nED ⊢
                  have zE : E < u.heap.size := by omega
                  have yE : wE.heap.size ≤ E := by omega
                  clear hu b eu fu hEe
                  refine hK.out _ _ ?_ (fun hHeld => ?_)
                  · exact ⟨p0, p1⟩
                  clear hK K
                  try simp only [List.getElem_toArray, List.getElem_cons_succ, List.getElem_cons_zero, Act.put, List.setIfInBounds_toArray, List.set_cons_zero, List.set_cons_succ]
                  rw [← unhide hGo]
                  exact goTo (N_6_10 E D u hbw p0 p1 hE zE yE hD0 hD1 hDf0 hDf1 zD yD nED) (by kernel_rfl) (by kernel_rfl) (by rw [unhide ha0]; kernel_rfl)
              have N_0 : ∀ (v : World) (hbw : Hid (Below wE.heap.size wE v)) (p0 : v.cell? ⟨w1.heap.size, 0, none⟩ = some (.int .i64 (m : Int))) (p1 : v.cell? ⟨w1.heap.size, 1, none⟩ = some (.slice a Lc.length cp)), Go 8 #[true, true, false, true, true, false, false, false, false, false, false, false] a0 v := by
                intro v hbw p0 p1
                rw [unhide hGo, unhide ha0]
                try simp only [List.getElem_toArray, List.getElem_cons_succ, List.getElem_cons_zero, Act.put, List.setIfInBounds_toArray, List.set_cons_zero, List.set_cons_succ]
                have hHeld : v.cell? ⟨w1.heap.size, 0, none⟩ = some (.int .i64 (m : Int)) ∧ v.cell? ⟨w1.heap.size, 1, none⟩ = some (.slice a Lc.length cp) := ⟨p0, p1⟩
                refine wpAnyH_ready (rs := [2, 6, 10]) (by kernel_rfl) (by simp) ?_
                refine AllReadyH.cons rfl (fun K hK => ?_) (AllReadyH.cons rfl (fun K hK => ?_) (AllReadyH.cons rfl (fun K hK => ?_) AllReadyH.nil))
                · go_simp
                  obtain ⟨u, hu⟩ : ∃ z, z = v.alloc (.cells #[] 30) := ⟨_, rfl⟩
                  have b : Below v.heap.size v u := by rw [hu]; exact (Below.refl _ _).alloc (Nat.le_refl _) _
                  have eu : v.heap.size < u.heap.size := by rw [hu]; simp
                  have fu : wE.heap.size ≤ v.heap.size := (unhide hbw).size
                  have hbw := hide ((unhide hbw).trans (b.mono (unhide hbw).size))
                  have p0 := cell_later b p0
                  have p1 := cell_later b p1
                  have hX : Hid (u.heap[v.heap.size]? = some (.cells #[] 30 (0, 0))) := by show _ = _; rw [hu]; exact alloc_at rfl
                  rw [← hu]
                  obtain ⟨X, hXe⟩ : ∃ z, z = v.heap.size := ⟨_, rfl⟩
                  rw [← hXe] at hX ⊢
                  have zX : X < u.heap.size := by omega
                  have yX : wE.heap.size ≤ X := by omega
                  clear hu b eu fu hXe
                  refine hK.out _ _ ?_ (fun hHeld => ?_)
                  · exact ⟨p0, p1⟩
                  clear hK K
                  try simp only [List.getElem_toArray, List.getElem_cons_succ, List.getElem_cons_zero, Act.put, List.setIfInBounds_toArray, List.set_cons_zero, List.set_cons_succ]
                  rw [← unhide hGo]
                  exact goTo (N_2 X u hbw p0 p1 hX zX yX) (by kernel_rfl) (by kernel_rfl) (by rw [unhide ha0]; kernel_rfl)
                · go_simp
                  obtain ⟨u, hu⟩ : ∃ z, z = v.alloc (.cells #[.int .i64 (-1)] 3) := ⟨_, rfl⟩
                  have b : Below v.heap.size v u := by rw [hu]; exact (Below.refl _ _).alloc (Nat.le_refl _) _
                  have eu : v.heap.size < u.heap.size := by rw [hu]; simp
                  have fu : wE.heap.size ≤ v.heap.size := (unhide hbw).size
                  have hbw := hide ((unhide hbw).trans (b.mono (unhide hbw).size))
                  have p0 := cell_later b p0
                  have p1 := cell_later b p1
                  have hE : Hid (Clz.Ok (⟨v.heap.size, 1, [-1]⟩ : Clz) u 0) := by show Clz.Ok _ _ _; rw [hu]; exact clz_lit v 0 #[.int .i64 (-1)] [-1] rfl (by omega) (by simp) (unhide hLit)
                  rw [← hu]
                  obtain ⟨E, hEe⟩ : ∃ z, z = v.heap.size := ⟨_, rfl⟩
                  rw [← hEe] at hE ⊢
                  have zE : E < u.heap.size := by omega
                  have yE : wE.heap.size ≤ E := by omega
                  clear hu b eu fu hEe
                  refine hK.out _ _ ?_ (fun hHeld => ?_)
                  · exact ⟨p0, p1⟩
                  clear hK K
                  try simp only [List.getElem_toArray, List.getElem_cons_succ, List.getElem_cons_zero, Act.put, List.setIfInBounds_toArray, List.set_cons_zero, List.set_cons_succ]
                  rw [← unhide hGo]
                  exact goTo (N_6 E u hbw p0 p1 hE zE yE) (by kernel_rfl) (by kernel_rfl) (by rw [unhide ha0]; kernel_rfl)
                · go_simp
                  obtain ⟨u, hu⟩ : ∃ z, z = v.alloc (.cells #[.int .i64 0, .slice none 0 0] 25) := ⟨_, rfl⟩
                  have b : Below v.heap.size v u := by rw [hu]; exact (Below.refl _ _).alloc (Nat.le_refl _) _
                  have eu : v.heap.size < u.heap.size := by rw [hu]; simp
                  have fu : wE.heap.size ≤ v.heap.size := (unhide hbw).size
                  have hbw := hide ((unhide hbw).trans (b.mono (unhide hbw).size))
                  have p0 := cell_later b p0
                  have p1 := cell_later b p1
                  have hD0 : u.cell? ⟨v.heap.size, 0, none⟩ = some (.int .i64 0) := by rw [hu]; simp [go_sem]
                  have hD1 : u.cell? ⟨v.heap.size, 1, none⟩ = some (.slice none 0 0) := by rw [hu]; simp [go_sem]
                  have hDf0 : u.frozen? ⟨v.heap.size, 0, none⟩ = false := by rw [hu]; simp [go_sem]
                  have hDf1 : u.frozen? ⟨v.heap.size, 1, none⟩ = false := by rw [hu]; simp [go_sem]
                  rw [← hu]
                  obtain ⟨D, hDe⟩ : ∃ z, z = v.heap.size := ⟨_, rfl⟩
                  rw [← hDe] at hD0 hD1 hDf0 hDf1 ⊢
                  have zD : D < u.heap.size := by omega
                  have yD : wE.heap.size ≤ D := by omega
                  clear hu b eu fu hDe
                  refine hK.out _ _ ?_ (fun hHeld => ?_)
                  · exact ⟨p0, p1⟩
                  clear hK K
                  try simp only [List.getElem_toArray, List.getElem_cons_succ, List.getElem_cons_zero, Act.put, List.setIfInBounds_toArray, List.set_cons_zero, List.set_cons_succ]
                  rw [← unhide hGo]
                  exact goTo (N_10 D u hbw p0 p1 hD0 hD1 hDf0 hDf1 zD yD) (by kernel_rfl) (by kernel_rfl) (by rw [unhide ha0]; kernel_rfl)
              exact goTo (N_0 wd hbw p0 p1) (by kernel_rfl) (by kernel_rfl) rfl
            case rest =>
              obtain ⟨Df, gf, cf, ef, rfl, df0, df1, Cx, bx⟩ := hcut
              obtain ⟨wF, rfl⟩ : ∃ z, z = wc := ⟨_, rfl⟩
              replace bw := bw.trans (bx.mono bw.size)
              replace BLw := BLw.trans (bx.mono BLw.size)
              replace p0 := (bw.cell (p := ⟨w1.heap.size, 0, none⟩) lB).trans (unhide HP0)
              replace p1 := (bw.cell (p := ⟨w1.heap.size, 1, none⟩) lB).trans (unhide HP1)
              replace da0 := cell_later bx da0
              replace da1 := cell_later bx da1
              replace HA := hide ((unhide HA).later bx)
              replace db0 := cell_later bx db0
              replace db1 := cell_later bx db1
              replace HB := hide ((unhide HB).later bx)
              replace de0 := cell_later bx de0
              replace de1 := cell_later bx de1
              replace HE := hide ((unhide HE).later bx)
              have HF := hide Cx
              clear Cx bx
              go_wp2_with fail
              obtain ⟨La, hLa⟩ : ∃ z, z = Lc ++ [⟨ea, 1, [(m : Int) + 1]⟩] := ⟨_, rfl⟩
              have FA := (unhide HA).fits (by simp; omega)
              have RA := rws_len (unhide HA)
              rw [List.length_append, List.length_singleton, ← hLa] at FA RA
              replace FA := hide FA
              replace RA := hide RA
              have HLa := hide hLa
              clear hLa HA
              obtain ⟨Lb, hLb⟩ : ∃ z, z = Lc ++ [⟨eb, 2, [1, -1]⟩] := ⟨_, rfl⟩
              have FB := (unhide HB).fits (by simp; omega)
              have RB := rws_len (unhide HB)
              rw [List.length_append, List.length_singleton, ← hLb] at FB RB
              replace FB := hide FB
              replace RB := hide RB
              have HLb := hide hLb
              clear hLb HB
              obtain ⟨Le, hLe⟩ : ∃ z, z = Lc ++ [⟨ee, 1, [0]⟩] := ⟨_, rfl⟩
              have FE := (unhide HE).fits (by simp; omega)
              have RE := rws_len (unhide HE)
              rw [List.length_append, List.length_singleton, ← hLe] at FE RE
              replace FE := hide FE
              replace RE := hide RE
              have HLe := hide hLe
              clear hLe HE
              obtain ⟨Lf, hLf⟩ : ∃ z, z = Lc ++ [⟨ef, 1, [-1]⟩] := ⟨_, rfl⟩
              have FF := (unhide HF).fits (by simp; omega)
              have RF := rws_len (unhide HF)
              rw [List.length_append, List.length_singleton, ← hLf] at FF RF
              replace FF := hide FF
              replace RF := hide RF
              have HLf := hide hLf
              clear hLf HF
              replace HC := hide (rws_len ((unhide HC).later bw))
              clear hlc hcm hl0
              refine (iCnfOk_any (m : Int) (some ⟨ga, 0, none⟩) (Lc.length + 1) ca (cA La) (cL La) (cC La) (cV La) wF (unhide RA) (unhide FA)).mono ?_
              rintro e w21 ⟨rfl, b21⟩
              rw [unhide HLa, more_wrong (far_wrong (by omega))]
              replace BLw := BLw.trans (b21.mono BLw.size)
              replace p0 := cell_later b21 p0
              replace p1 := cell_later b21 p1
              replace HC := hide (RwsAt.later (unhide HC) b21)
              replace da0 := cell_later b21 da0
              replace da1 := cell_later b21 da1
              replace RA := hide (RwsAt.later (unhide RA) b21)
              replace db0 := cell_later b21 db0
              replace db1 := cell_later b21 db1
              replace RB := hide (RwsAt.later (unhide RB) b21)
              replace de0 := cell_later b21 de0
              replace de1 := cell_later b21 de1
              replace RE := hide (RwsAt.later (unhide RE) b21)
              replace df0 := cell_later b21 df0
              replace df1 := cell_later b21 df1
              replace RF := hide (RwsAt.later (unhide RF) b21)
              clear b21
              go_wp2_with fail
              refine (iCnfOk_any (m : Int) (some ⟨gb, 0, none⟩) (Lc.length + 1) cb (cA Lb) (cL Lb) (cC Lb) (cV Lb) w21 (unhide RB) (unhide FB)).mono ?_
              rintro e w22 ⟨rfl, b22⟩
              rw [unhide HLb, more_wrong twice_wrong]
              replace BLw := BLw.trans (b22.mono BLw.size)
              replace p0 := cell_later b22 p0
              replace p1 := cell_later b22 p1
              replace HC := hide (RwsAt.later (unhide HC) b22)
              replace da0 := cell_later b22 da0
              replace da1 := cell_later b22 da1
              replace RA := hide (RwsAt.later (unhide RA) b22)
              replace db0 := cell_later b22 db0
              replace db1 := cell_later b22 db1
              replace RB := hide (RwsAt.later (unhide RB) b22)
              replace de0 := cell_later b22 de0
              replace de1 := cell_later b22 de1
              replace RE := hide (RwsAt.later (unhide RE) b22)
              replace df0 := cell_later b22 df0
              replace df1 := cell_later b22 df1
              replace RF := hide (RwsAt.later (unhide RF) b22)
              clear b22
              go_wp2_with fail
              refine (iCnfOk_any (m : Int) (some ⟨ge, 0, none⟩) (Lc.length + 1) ce (cA Le) (cL Le) (cC Le) (cV Le) w22 (unhide RE) (unhide FE)).mono ?_
              rintro e w23 ⟨rfl, b23⟩
              rw [unhide HLe, more_wrong zero_wrong]
              replace BLw := BLw.trans (b23.mono BLw.size)
              replace p0 := cell_later b23 p0
              replace p1 := cell_later b23 p1
              replace HC := hide (RwsAt.later (unhide HC) b23)
              replace da0 := cell_later b23 da0
              replace da1 := cell_later b23 da1
              replace RA := hide (RwsAt.later (unhide RA) b23)
              replace db0 := cell_later b23 db0
              replace db1 := cell_later b23 db1
              replace RB := hide (RwsAt.later (unhide RB) b23)
              replace de0 := cell_later b23 de0
              replace de1 := cell_later b23 de1
              replace RE := hide (RwsAt.later (unhide RE) b23)
              replace df0 := cell_later b23 df0
              replace df1 := cell_later b23 df1
              replace RF := hide (RwsAt.later (unhide RF) b23)
              clear b23
              go_wp2_with fail
              refine (iCnfOk_any (m : Int) (some ⟨gf, 0, none⟩) (Lc.length + 1) cf (cA Lf) (cL Lf) (cC Lf) (cV Lf) w23 (unhide RF) (unhide FF)).mono ?_
              rintro e w24 ⟨rfl, b24⟩
              rw [unhide HLf, more_right (unhide HCB) (by omega) (not1_right (by omega))]
              replace BLw := BLw.trans (b24.mono BLw.size)
              replace p0 := cell_later b24 p0
              replace p1 := cell_later b24 p1
              replace HC := hide (RwsAt.later (unhide HC) b24)
              replace da0 := cell_later b24 da0
              replace da1 := cell_later b24 da1
              replace RA := hide (RwsAt.later (unhide RA) b24)
              replace db0 := cell_later b24 db0
              replace db1 := cell_later b24 db1
              replace RB := hide (RwsAt.later (unhide RB) b24)
              replace de0 := cell_later b24 de0
              replace de1 := cell_later b24 de1
              replace RE := hide (RwsAt.later (unhide RE) b24)
              replace df0 := cell_later b24 df0
              replace df1 := cell_later b24 df1
              replace RF := hide (RwsAt.later (unhide RF) b24)
              clear b24
              go_wp2_with fail
              refine (iCnfSame_any (m : Int) (m : Int) a (some ⟨gf, 0, none⟩) Lc.length (Lc.length + 1) cp cf (cA Lc) (cA Lf) (cL Lc) (cL Lf) (cC Lc) (cC Lf) (cV Lc) (cV Lf) w24 (unhide HC) (unhide FitC) (unhide RF) (unhide FF)).mono ?_
              rintro e w25 ⟨rfl, b25⟩
              rw [sameB_more]
              replace BLw := BLw.trans (b25.mono BLw.size)
              replace p0 := cell_later b25 p0
              replace p1 := cell_later b25 p1
              replace HC := hide (RwsAt.later (unhide HC) b25)
              replace da0 := cell_later b25 da0
              replace da1 := cell_later b25 da1
              replace RA := hide (RwsAt.later (unhide RA) b25)
              replace db0 := cell_later b25 db0
              replace db1 := cell_later b25 db1
              replace RB := hide (RwsAt.later (unhide RB) b25)
              replace de0 := cell_later b25 de0
              replace de1 := cell_later b25 de1
              replace RE := hide (RwsAt.later (unhide RE) b25)
              replace df0 := cell_later b25 df0
              replace df1 := cell_later b25 df1
              replace RF := hide (RwsAt.later (unhide RF) b25)
              clear b25
              go_wp2_with fail
              refine (iCnfSame_any (m : Int) (m : Int) (some ⟨ga, 0, none⟩) (some ⟨gb, 0, none⟩) (Lc.length + 1) (Lc.length + 1) ca cb (cA La) (cA Lb) (cL La) (cL Lb) (cC La) (cC Lb) (cV La) (cV Lb) w25 (unhide RA) (unhide FA) (unhide RB) (unhide FB)).mono ?_
              rintro e w26 ⟨rfl, b26⟩
              rw [unhide HLa, unhide HLb, sameB_tail (by simp)]
              replace BLw := BLw.trans (b26.mono BLw.size)
              replace p0 := cell_later b26 p0
              replace p1 := cell_later b26 p1
              replace HC := hide (RwsAt.later (unhide HC) b26)
              replace da0 := cell_later b26 da0
              replace da1 := cell_later b26 da1
              replace RA := hide (RwsAt.later (unhide RA) b26)
              replace db0 := cell_later b26 db0
              replace db1 := cell_later b26 db1
              replace RB := hide (RwsAt.later (unhide RB) b26)
              replace de0 := cell_later b26 de0
              replace de1 := cell_later b26 de1
              replace RE := hide (RwsAt.later (unhide RE) b26)
              replace df0 := cell_later b26 df0
              replace df1 := cell_later b26 df1
              replace RF := hide (RwsAt.later (unhide RF) b26)
              clear b26
              go_wp2
              go_ret
              exact ⟨rfl, BLw⟩
  · go_enter Try.func3, Try.ntmps3
    go_wp2
    go_ret
    exact ⟨rfl, Below.refl _ _⟩

set_option maxRecDepth 100000 in
theorem lifted (os : Os) (started : os.Started) (H : Type) (enc : TypeId × Value → H) :
    ReturnsInHanded {} Try.checked os 3 .any (Rows.fnCnfBentSpec.pre6 enc Try.prog Try.f3 Rows.fnCnfBentRow.domain false) (Rows.fnCnfBentSpec.post enc Try.prog Try.f3 false true false false) := by
  refine returnsInHanded_of_change (C := Try.checked) own started (by kernel_rfl) Try.func3
    (ChangeSpec.witness6 (enc := enc) (C := Try.checked) false ⟨#[], #[.slice none 0 0], []⟩ 8 (by kernel_rfl) (by kernel_rfl) (by kernel_rfl) (by kernel_rfl)) ?_
  intro W base args ds gs before hval0 hW hcnd _
  have hval : ∀ (j : Nat) t v, Try.f3.params[j]? = some t → args[j]? = some v → Value.okWide Try.prog W .any base t v := hval0
  have hW' := hW
  obtain ⟨p, q, hA0, hV, rfl, hfz, hnd⟩ := hW
  have hA : DataW.TrodAll enc Try.prog W 0 (fun _ => true) true Try.f3.params.toList args.toList ds p := hA0
  rw [Try.params3] at hA hval
  obtain ⟨v0, vs0, d0, ds0, p0, q0, hargs, rfl, rfl, h0, r0⟩ := trodAll_cons hA
  obtain ⟨rfl, rfl, rfl⟩ := trodAll_nil r0
  obtain rfl : args = #[v0] := by cases args; simp_all
  obtain ⟨rfl, rfl⟩ := trodVars_none hV
  obtain ⟨code, lencode, capcode, rfl⟩ := okWide_slice Try.underlying22 (hval 0 22 v0 rfl rfl)
  have k0 := h0
  have lt0 : ∀ x ∈ p0, x.block < W.heap.size := by obtain ⟨m, hm⟩ := k0; exact DataW.trod_lt m _ _ _ hm
  obtain ⟨zcode, wcode⟩ : ∃ zs, IsRow .u8 W code lencode capcode zs := by
    obtain ⟨fuel, hf⟩ := h0
    rcases open_ints Try.underlying22 Try.underlying5 (by kernel_rfl) hf with ⟨hcs, _⟩ | ⟨x, l, c, zs, hcs, _, hl, hm, hz, _, hcell, hwz⟩
    · simp [Value.cells] at hcs
      obtain ⟨rfl, rfl, rfl⟩ := hcs
      exact ⟨[], .inl ⟨rfl, rfl, rfl, rfl⟩⟩
    · simp [Value.cells] at hcs
      obtain ⟨rfl, rfl, rfl⟩ := hcs
      exact ⟨zs, .inr ⟨_, rfl, hl, hm, by simpa using hz, hcell, hwz⟩⟩
  clear hA0 hval0
  refine (walk code lencode capcode zcode W wcode).mono fun e W' ⟨he, bel⟩ => ?_
  subst he
  exact ⟨_, rfl, _, _, _, [], _, [], hW', trodAll_mk1 (shut_bool Try.underlying4 _), (trodAll_cons_mk (Below.trod laidOut (by kernel_rfl) (of_decide_eq_true (by kernel_rfl)) k0 bel lt0) trodAll_mk0), rfl, bel.frame _, fun h => by cases h⟩

theorem over : Rows.fnCnfBentRow.holds Try.pinned (OpenSpec.ofChange Rows.fnCnfBentSpec) :=
  OpenClaim.holds_of_wide 3 Try.f3 rfl rfl rfl rfl rfl rfl rfl ⟨rfl, rfl, rfl, rfl, rfl⟩ rfl rfl rfl rfl rfl (by kernel_rfl) Try.func3 (by kernel_rfl)
    (of_decide_eq_true (by kernel_rfl)) (by unfold Func.isWrapper; first | (rw [if_pos (by decide +kernel)]; kernel_rfl) | (rw [if_neg (by decide +kernel)]; exact ⟨rfl, rfl⟩))
    (fun os started H enc _ => lifted os started H enc)
end cBent

theorem cBent_holds : Rows.FnCnfBentSaid := cBent.over
#print axioms cBent_holds
end Go.Proofs.Ytbepnfcghjfngaa
