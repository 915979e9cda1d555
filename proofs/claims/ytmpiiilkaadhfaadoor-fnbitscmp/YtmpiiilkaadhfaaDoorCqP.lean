/- Two numbers held against each other, of the program. -/
import Derived.Test.YtmpiiilkaadhfaaDoorBkY
import Derived.Test.YtmpiiilkaadhfaaDoorCqS
import Derived.Lib.SliceRun
import Derived.Test.YtmpiiilkaadhfaaDoorRngA
namespace Go.Proofs.YtmpiiilkaadhfaaDoor
open Go.ChangeShapes Go.WideShapes Go.ChangeAt Go.RowKit Go.Joins
set_option linter.unusedVariables false
set_option maxRecDepth 100000
set_option linter.unusedSimpArgs false
/-- The builder behind some steps. -/
structure BI (w wr : World) (base bb gb B g g' : Nat) (aF aR : Addr) (s : KS) : Prop where
  b : Bld wr base bb gb B g' aR s
  s : Sent wr base aF aR
  gs : GS g g' w.heap.size
  o : OutS (S4 bb gb B g) w wr
theorem BI.drew {w wr : World} {base bb gb B g g' : Nat} {aF aR : Addr} {s : KS} (h : BI w wr base bb gb B g g' aF aR s) : BI w wr.drew base bb gb B g g' aF aR s := ⟨h.b.later (Below.refl _ _).drew, h.s.drew, h.gs, h.o.drew⟩
theorem BI.call {w wr w1 : World} {base bb gb B g g' : Nat} {aF aR : Addr} {s t : KS} (h : BI w wr base bb gb B g g' aF aR s) (k : BStep wr w1 base bb gb B g' aR t) : ∃ g'', BI w w1 base bb gb B g g'' aF aR t := by
  obtain ⟨g2, k1, k2, k3⟩ := k
  exact ⟨g2, k1, h.s.out h.b k3, gates_step h.gs k2 h.o.size, outS_step h.gs h.o k3⟩
set_option maxRecDepth 100000 in
set_option maxHeartbeats 1500000 in
theorem bsame_any (base bb gb B g : Nat) (aF aR : Addr) (s : KS) (rx ox cx ry oy cy n : Nat) (L M : List Int) (w : World) (hb : Bld w base bb gb B g aR s) (hs : Sent w base aF aR) (hbase : base ≤ w.heap.size) (hk : KOk s) (hL : L.length = n) (hM : M.length = n) (hn : n ≤ 100) (dx : Ints w rx ox n (at0 L)) (dy : Ints w ry oy n (at0 M)) (nx : ¬ S4 bb gb B g rx ∧ rx < w.heap.size) (ny : ¬ S4 bb gb B g ry ∧ ry < w.heap.size) (mL : MkL s L) (mM : MkL s M) :
    Calls Tryd.prog 66 #[.pointer (some ⟨bb, 0, none⟩), .slice (some ⟨rx, ox, none⟩) n cx, .slice (some ⟨ry, oy, none⟩) n cy] w fun e w' => e = .returned (.int .i64 (foldK (sameR 0) s (1) L M n).2) ∧ ∃ g', BI w w' base bb gb B g g' aF aR (foldK (sameR 0) s (1) L M n).1 := by
  have HGD : Hid (∀ i, i ≤ n → Good s (foldK (sameR 0) s (1) L M i)) := fun i hi => foldK_good (sameR_good (by omega)) hk (Mk.one hk) mL mM i (by omega) (by omega)
  have H0 : Hid (BI w w base bb gb B g g aF aR s) := ⟨hb, hs, Or.inl rfl, OutS.refl _ _⟩
  have HX := hide dx
  have HY := hide dy
  have HNX := hide nx
  have HNY := hide ny
  have HmL := hide mL
  have HmM := hide mM
  have HeL := hide hL
  have HeM := hide hM
  clear hb hs hk hL hM dx dy nx ny mL mM
  go_enter Tryd.func66, Tryd.ntmps66
  go_wp2
  go_loopw [11, 7] (fun i k wr => ∃ j : Nat, j ≤ n ∧ i = .int .i64 j ∧ k = .int .i64 (foldK (sameR 0) s (1) L M j).2 ∧ ∃ g', BI w wr base bb gb B g g' aF aR (foldK (sameR 0) s (1) L M j).1) (fun i _ _ => n - (intOf i).toNat)
  case atStart => exact ⟨0, by omega, rfl, rfl, g, unhide H0⟩
  case round =>
    obtain ⟨j, hj, rfl, rfl, g', hI⟩ := hrel
    have HR := hide hI
    have HGj := unhide HGD j hj
    clear hI
    by_cases hlt : j < n
    · have mx := ((unhide HmL) j (by rw [unhide HeL]; exact hlt)).le HGj.2.2
      have my := ((unhide HmM) j (by rw [unhide HeM]; exact hlt)).le HGj.2.2
      have HN : Hid (foldK (sameR 0) s (1) L M (j + 1) = sameR 0 (foldK (sameR 0) s (1) L M j).1 (foldK (sameR 0) s (1) L M j).2 (at0 L j) (at0 M j)) := rfl
      have gS := HGj.1
      have mC := HGj.2.1
      clear HGj
      obtain ⟨x, hx⟩ : ∃ x, x = at0 L j := ⟨_, rfl⟩
      obtain ⟨y, hy⟩ : ∃ y, y = at0 M j := ⟨_, rfl⟩
      rw [← hx] at mx HN
      rw [← hy] at my HN
      replace HX : Hid (∀ i, i < n → i = j → w.cell? ⟨rx, ox + i, none⟩ = some (.int .i64 x)) := fun i hi e => by have h := unhide HX i hi; rw [e] at h ⊢; rw [hx]; exact h
      replace HY : Hid (∀ i, i < n → i = j → w.cell? ⟨ry, oy + i, none⟩ = some (.int .i64 y)) := fun i hi e => by have h := unhide HY i hi; rw [e] at h ⊢; rw [hy]; exact h
      clear hx hy
      generalize (foldK (sameR 0) s (1) L M j).1 = S at *
      generalize (foldK (sameR 0) s (1) L M j).2 = C at *
      have Clo := mC.1
      have Chi := mC.2.1
      obtain ⟨u1, hu1⟩ : ∃ u, u = xorK 0 S x y := ⟨_, rfl⟩
      have k1 : Good S u1 := by rw [hu1]; exact xorK_good (by omega) gS mx my
      obtain ⟨u2, hu2⟩ : ∃ u, u = andK 0 u1.1 C (-u1.2) := ⟨_, rfl⟩
      have k2 : Good u1.1 u2 := by rw [hu2]; exact andK_good (by omega) k1.1 (mC.le k1.2.2) k1.2.1.neg
      have HN2 : Hid (foldK (sameR 0) s (1) L M (j + 1) = u2) := by rw [unhide HN, hu2, hu1]; rfl
      have HU1 := hide hu1
      have HU2 := hide hu2
      have ub1 := k1.2.1.1
      have uc1 := k1.2.1.2.1
      have HWN : Hid (IntKind.i64.wrap (-u1.2) = -u1.2) := by show _ = _; rw [IntKind.wrap_i64]; omega
      clear hu1 hu2 HN
      have HC1 : Hid (∀ q w', BI w w' base bb gb B g q aF aR S → Calls Tryd.prog 90 #[.pointer (some ⟨bb, 0, none⟩), .int .i64 x, .int .i64 y] w' fun e w'' => e = .returned (.int .i64 u1.2) ∧ BStep w' w'' base bb gb B q aR u1.1) := fun q w' hw' => by have h := bxor_any base bb gb B q aF aR S x y w' hw'.b hw'.s (Nat.le_trans hbase hw'.o.size) gS mx my; rw [← unhide HU1] at h; exact h
      have HC2 : Hid (∀ q w', BI w w' base bb gb B g q aF aR u1.1 → Calls Tryd.prog 89 #[.pointer (some ⟨bb, 0, none⟩), .int .i64 C, .int .i64 (-u1.2)] w' fun e w'' => e = .returned (.int .i64 u2.2) ∧ BStep w' w'' base bb gb B q aR u2.1) := fun q w' hw' => by have h := band_any base bb gb B q aF aR u1.1 C (-u1.2) w' hw'.b hw'.s (Nat.le_trans hbase hw'.o.size) k1.1 (mC.le k1.2.2) k1.2.1.neg; rw [← unhide HU2] at h; exact h
      have dL := (unhide HR).o.cell (unhide HX j hlt rfl) (unhide HNX).1
      have dM := (unhide HR).o.cell (unhide HY j hlt rfl) (unhide HNY).1
      go_wp2
      refine wp_region_held_drew (S := fun w' => w'.cell? ⟨rx, ox + j, none⟩ = some (.int .i64 x) ∧ w'.cell? ⟨ry, oy + j, none⟩ = some (.int .i64 y)) (by kernel_rfl) ?_ (fun hHeld => ?_)
      · exact ⟨dL, dM⟩
      refine wpAnyH_take (i := 0) (v := ?_) rfl (by kernel_rfl) (by kernel_rfl) (by kernel_rfl) (fun _ _ _ h => h) (Or.inl ⟨by rfl, ?_⟩) (by assumption) ?_
      rotate_left
      · (intro w hSw; (try dsimp only at hSw); first | (go_simp; done) | (go_simp; with_reducible rfl))
      try simp only [List.getElem_toArray, List.getElem_cons_succ, List.getElem_cons_zero, Act.put, List.setIfInBounds_toArray, List.set_cons_zero, List.set_cons_succ]
      refine wpAnyH_take (i := 1) (v := ?_) rfl (by kernel_rfl) (by kernel_rfl) (by kernel_rfl) (fun _ _ _ h => h) (Or.inl ⟨by rfl, ?_⟩) (by assumption) ?_
      rotate_left
      · (intro w hSw; (try dsimp only at hSw); first | (go_simp; done) | (go_simp; with_reducible rfl))
      try simp only [List.getElem_toArray, List.getElem_cons_succ, List.getElem_cons_zero, Act.put, List.setIfInBounds_toArray, List.set_cons_zero, List.set_cons_succ]
      refine wpAnyH_take (i := 2) (v := ?_) rfl (by kernel_rfl) (by kernel_rfl) (by kernel_rfl) (fun _ _ _ h => h) (Or.inl ⟨by rfl, ?_⟩) (by assumption) ?_
      rotate_left
      · (intro w hSw; (try dsimp only at hSw); first | (go_simp; done) | (go_simp; with_reducible rfl))
      try simp only [List.getElem_toArray, List.getElem_cons_succ, List.getElem_cons_zero, Act.put, List.setIfInBounds_toArray, List.set_cons_zero, List.set_cons_succ]
      refine wpAnyH_take (i := 3) (v := ?_) rfl (by kernel_rfl) (by kernel_rfl) (by kernel_rfl) (fun _ _ _ h => h) (Or.inl ⟨by rfl, ?_⟩) (by assumption) ?_
      rotate_left
      · (intro w hSw; (try dsimp only at hSw); first | (go_simp; done) | (go_simp; with_reducible rfl))
      try simp only [List.getElem_toArray, List.getElem_cons_succ, List.getElem_cons_zero, Act.put, List.setIfInBounds_toArray, List.set_cons_zero, List.set_cons_succ]
      refine wpAnyH_take (i := 4) (v := ?_) rfl (by kernel_rfl) (by kernel_rfl) (by kernel_rfl) (fun _ _ _ h => h) (Or.inl ⟨by rfl, ?_⟩) (by assumption) ?_
      rotate_left
      · (intro w hSw; (try dsimp only at hSw); first | (go_simp; done) | (go_simp; with_reducible rfl))
      try simp only [List.getElem_toArray, List.getElem_cons_succ, List.getElem_cons_zero, Act.put, List.setIfInBounds_toArray, List.set_cons_zero, List.set_cons_succ]
      refine wpAnyH_take (i := 5) (v := ?_) rfl (by kernel_rfl) (by kernel_rfl) (by kernel_rfl) (fun _ _ _ h => h) (Or.inl ⟨by rfl, ?_⟩) (by assumption) ?_
      rotate_left
      · (intro w hSw; (try dsimp only at hSw); first | (go_simp; done) | (go_simp; with_reducible rfl))
      try simp only [List.getElem_toArray, List.getElem_cons_succ, List.getElem_cons_zero, Act.put, List.setIfInBounds_toArray, List.set_cons_zero, List.set_cons_succ]
      refine wpAnyH_take (i := 6) (v := ?_) rfl (by kernel_rfl) (by kernel_rfl) (by kernel_rfl) (fun _ _ _ h => h) (Or.inl ⟨by rfl, ?_⟩) (by assumption) ?_
      rotate_left
      · (intro w hSw; (try dsimp only at hSw); first | (go_simp; done) | (go_simp; with_reducible rfl))
      try simp only [List.getElem_toArray, List.getElem_cons_succ, List.getElem_cons_zero, Act.put, List.setIfInBounds_toArray, List.set_cons_zero, List.set_cons_succ]
      refine wpAnyH_take (i := 7) (v := ?_) rfl (by kernel_rfl) (by kernel_rfl) (by kernel_rfl) (fun _ _ _ h => h) (Or.inl ⟨by rfl, ?_⟩) (by assumption) ?_
      rotate_left
      · (intro w hSw; (try dsimp only at hSw); first | (go_simp; done) | (go_simp; with_reducible rfl))
      try simp only [List.getElem_toArray, List.getElem_cons_succ, List.getElem_cons_zero, Act.put, List.setIfInBounds_toArray, List.set_cons_zero, List.set_cons_succ]
      refine wpAnyH_take (i := 8) (v := ?_) rfl (by kernel_rfl) (by kernel_rfl) (by kernel_rfl) (fun _ _ _ h => h) (Or.inl ⟨by rfl, ?_⟩) (by assumption) ?_
      rotate_left
      · (intro w hSw; (try dsimp only at hSw); first | (go_simp; done) | (go_simp; with_reducible rfl))
      try simp only [List.getElem_toArray, List.getElem_cons_succ, List.getElem_cons_zero, Act.put, List.setIfInBounds_toArray, List.set_cons_zero, List.set_cons_succ]
      refine wpAnyH_take (i := 9) (v := ?_) rfl (by kernel_rfl) (by kernel_rfl) (by kernel_rfl) (fun _ _ _ h => h) (Or.inl ⟨by rfl, ?_⟩) (by assumption) ?_
      rotate_left
      · (intro w hSw; (try dsimp only at hSw); first | (go_simp; done) | (go_simp; with_reducible rfl))
      try simp only [List.getElem_toArray, List.getElem_cons_succ, List.getElem_cons_zero, Act.put, List.setIfInBounds_toArray, List.set_cons_zero, List.set_cons_succ]
      refine wpAnyH_take (i := 10) (v := ?_) rfl (by kernel_rfl) (by kernel_rfl) (by kernel_rfl) (fun _ _ _ h => h) (Or.inl ⟨by rfl, ?_⟩) (by assumption) ?_
      rotate_left
      · (intro w hSw; (try dsimp only at hSw); first | (go_simp; done) | (go_simp; with_reducible rfl))
      try simp only [List.getElem_toArray, List.getElem_cons_succ, List.getElem_cons_zero, Act.put, List.setIfInBounds_toArray, List.set_cons_zero, List.set_cons_succ]
      refine wpAnyH_ready (rs := [11]) (by kernel_rfl) (by simp) ?_
      refine AllReadyH.cons rfl (fun K hK => ?_) AllReadyH.nil
      go_simp
      refine (unhide HC1 _ _ (by first | exact unhide HR | exact (unhide HR).drew | exact (unhide HR).drew.drew)).mono ?_
      rintro e w1 ⟨rfl, st⟩
      obtain ⟨g1, hr2⟩ := BI.call (by first | exact unhide HR | exact (unhide HR).drew | exact (unhide HR).drew.drew) st
      clear st
      have dL := hr2.o.cell (unhide HX j hlt rfl) (unhide HNX).1
      have dM := hr2.o.cell (unhide HY j hlt rfl) (unhide HNY).1
      have HR := hide hr2
      clear hr2
      go_wp2_with fail
      refine hK.out _ _ ?_ (fun hHeld => ?_)
      · exact ⟨dL, dM⟩
      clear hK K
      try simp only [List.getElem_toArray, List.getElem_cons_succ, List.getElem_cons_zero, Act.put, List.setIfInBounds_toArray, List.set_cons_zero, List.set_cons_succ]
      refine wpAnyH_take (i := 12) (v := ?_) rfl (by kernel_rfl) (by kernel_rfl) (by kernel_rfl) (fun _ _ _ h => h) (Or.inl ⟨by rfl, ?_⟩) (by assumption) ?_
      rotate_left
      · (intro w hSw; (try dsimp only at hSw); first | (go_simp; done) | (go_simp; with_reducible rfl))
      try simp only [List.getElem_toArray, List.getElem_cons_succ, List.getElem_cons_zero, Act.put, List.setIfInBounds_toArray, List.set_cons_zero, List.set_cons_succ]
      refine wpAnyH_ready (rs := [13]) (by kernel_rfl) (by simp) ?_
      refine AllReadyH.cons rfl (fun K hK => ?_) AllReadyH.nil
      go_simp
      try rw [unhide HWN]
      refine (unhide HC2 _ _ (by first | exact unhide HR | exact (unhide HR).drew | exact (unhide HR).drew.drew)).mono ?_
      rintro e w2 ⟨rfl, st⟩
      obtain ⟨g2, hr2⟩ := BI.call (by first | exact unhide HR | exact (unhide HR).drew | exact (unhide HR).drew.drew) st
      clear st
      have dL := hr2.o.cell (unhide HX j hlt rfl) (unhide HNX).1
      have dM := hr2.o.cell (unhide HY j hlt rfl) (unhide HNY).1
      have HR := hide hr2
      clear hr2
      go_wp2_with fail
      refine hK.out _ _ ?_ (fun hHeld => ?_)
      · exact ⟨dL, dM⟩
      clear hK K
      try simp only [List.getElem_toArray, List.getElem_cons_succ, List.getElem_cons_zero, Act.put, List.setIfInBounds_toArray, List.set_cons_zero, List.set_cons_succ]
      refine wpAnyH_ready (rs := [14]) (by kernel_rfl) (by simp) ?_
      refine AllReadyH.cons rfl (fun K hK => ?_) AllReadyH.nil
      go_simp
      refine hK.out _ _ ?_ (fun hHeld => ?_)
      · exact ⟨dL, dM⟩
      clear hK K
      try simp only [List.getElem_toArray, List.getElem_cons_succ, List.getElem_cons_zero, Act.put, List.setIfInBounds_toArray, List.set_cons_zero, List.set_cons_succ]
      refine wpAnyH_done (by kernel_rfl) ?_ _
      clear dL dM
      go_wp2
      go_roundw
      case rel => exact ⟨j + 1, by omega, by go_num, by rw [unhide HN2], g2, by rw [unhide HN2]; first | exact unhide HR | exact (unhide HR).drew⟩
      case measure => simp [intOf]; omega
    · have ej : j = n := by omega
      subst ej
      go_wp2
      go_ret
      exact ⟨rfl, g', unhide HR⟩
set_option maxRecDepth 100000 in
set_option maxHeartbeats 1500000 in
theorem bless_any (base bb gb B g : Nat) (aF aR : Addr) (s : KS) (rx ox cx ry oy cy n : Nat) (L M : List Int) (w : World) (hb : Bld w base bb gb B g aR s) (hs : Sent w base aF aR) (hbase : base ≤ w.heap.size) (hk : KOk s) (hL : L.length = n) (hM : M.length = n) (hn : n ≤ 100) (dx : Ints w rx ox n (at0 L)) (dy : Ints w ry oy n (at0 M)) (nx : ¬ S4 bb gb B g rx ∧ rx < w.heap.size) (ny : ¬ S4 bb gb B g ry ∧ ry < w.heap.size) (mL : MkL s L) (mM : MkL s M) :
    Calls Tryd.prog 67 #[.pointer (some ⟨bb, 0, none⟩), .slice (some ⟨rx, ox, none⟩) n cx, .slice (some ⟨ry, oy, none⟩) n cy] w fun e w' => e = .returned (.int .i64 (foldK (lessR 0) s (-1) L M n).2) ∧ ∃ g', BI w w' base bb gb B g g' aF aR (foldK (lessR 0) s (-1) L M n).1 := by
  have HGD : Hid (∀ i, i ≤ n → Good s (foldK (lessR 0) s (-1) L M i)) := fun i hi => foldK_good (lessR_good (by omega)) hk (Mk.not hk) mL mM i (by omega) (by omega)
  have H0 : Hid (BI w w base bb gb B g g aF aR s) := ⟨hb, hs, Or.inl rfl, OutS.refl _ _⟩
  have HX := hide dx
  have HY := hide dy
  have HNX := hide nx
  have HNY := hide ny
  have HmL := hide mL
  have HmM := hide mM
  have HeL := hide hL
  have HeM := hide hM
  clear hb hs hk hL hM dx dy nx ny mL mM
  go_enter Tryd.func67, Tryd.ntmps67
  go_wp2
  go_loopw [11, 7] (fun i k wr => ∃ j : Nat, j ≤ n ∧ i = .int .i64 j ∧ k = .int .i64 (foldK (lessR 0) s (-1) L M j).2 ∧ ∃ g', BI w wr base bb gb B g g' aF aR (foldK (lessR 0) s (-1) L M j).1) (fun i _ _ => n - (intOf i).toNat)
  case atStart => exact ⟨0, by omega, rfl, rfl, g, unhide H0⟩
  case round =>
    obtain ⟨j, hj, rfl, rfl, g', hI⟩ := hrel
    have HR := hide hI
    have HGj := unhide HGD j hj
    clear hI
    by_cases hlt : j < n
    · have mx := ((unhide HmL) j (by rw [unhide HeL]; exact hlt)).le HGj.2.2
      have my := ((unhide HmM) j (by rw [unhide HeM]; exact hlt)).le HGj.2.2
      have HN : Hid (foldK (lessR 0) s (-1) L M (j + 1) = lessR 0 (foldK (lessR 0) s (-1) L M j).1 (foldK (lessR 0) s (-1) L M j).2 (at0 L j) (at0 M j)) := rfl
      have gS := HGj.1
      have mC := HGj.2.1
      clear HGj
      obtain ⟨x, hx⟩ : ∃ x, x = at0 L j := ⟨_, rfl⟩
      obtain ⟨y, hy⟩ : ∃ y, y = at0 M j := ⟨_, rfl⟩
      rw [← hx] at mx HN
      rw [← hy] at my HN
      replace HX : Hid (∀ i, i < n → i = j → w.cell? ⟨rx, ox + i, none⟩ = some (.int .i64 x)) := fun i hi e => by have h := unhide HX i hi; rw [e] at h ⊢; rw [hx]; exact h
      replace HY : Hid (∀ i, i < n → i = j → w.cell? ⟨ry, oy + i, none⟩ = some (.int .i64 y)) := fun i hi e => by have h := unhide HY i hi; rw [e] at h ⊢; rw [hy]; exact h
      clear hx hy
      generalize (foldK (lessR 0) s (-1) L M j).1 = S at *
      generalize (foldK (lessR 0) s (-1) L M j).2 = C at *
      have Clo := mC.1
      have Chi := mC.2.1
      obtain ⟨u1, hu1⟩ : ∃ u, u = xorK 0 S x y := ⟨_, rfl⟩
      have k1 : Good S u1 := by rw [hu1]; exact xorK_good (by omega) gS mx my
      obtain ⟨u2, hu2⟩ : ∃ u, u = oneK 0 u1.1 u1.2 y C := ⟨_, rfl⟩
      have k2 : Good u1.1 u2 := by rw [hu2]; exact oneK_good (by omega) k1.1 k1.2.1 (my.le k1.2.2) (mC.le k1.2.2)
      have HN2 : Hid (foldK (lessR 0) s (-1) L M (j + 1) = u2) := by rw [unhide HN, hu2, hu1]; rfl
      have HU1 := hide hu1
      have HU2 := hide hu2
      have ub1 := k1.2.1.1
      have uc1 := k1.2.1.2.1
      have HWN : Hid (IntKind.i64.wrap (-u1.2) = -u1.2) := by show _ = _; rw [IntKind.wrap_i64]; omega
      clear hu1 hu2 HN
      have HC1 : Hid (∀ q w', BI w w' base bb gb B g q aF aR S → Calls Tryd.prog 90 #[.pointer (some ⟨bb, 0, none⟩), .int .i64 x, .int .i64 y] w' fun e w'' => e = .returned (.int .i64 u1.2) ∧ BStep w' w'' base bb gb B q aR u1.1) := fun q w' hw' => by have h := bxor_any base bb gb B q aF aR S x y w' hw'.b hw'.s (Nat.le_trans hbase hw'.o.size) gS mx my; rw [← unhide HU1] at h; exact h
      have HC2 : Hid (∀ q w', BI w w' base bb gb B g q aF aR u1.1 → Calls Tryd.prog 91 #[.pointer (some ⟨bb, 0, none⟩), .int .i64 u1.2, .int .i64 y, .int .i64 C] w' fun e w'' => e = .returned (.int .i64 u2.2) ∧ BStep w' w'' base bb gb B q aR u2.1) := fun q w' hw' => by have h := bone_any base bb gb B q aF aR u1.1 u1.2 y C w' hw'.b hw'.s (Nat.le_trans hbase hw'.o.size) k1.1 k1.2.1 (my.le k1.2.2) (mC.le k1.2.2); rw [← unhide HU2] at h; exact h
      have dL := (unhide HR).o.cell (unhide HX j hlt rfl) (unhide HNX).1
      have dM := (unhide HR).o.cell (unhide HY j hlt rfl) (unhide HNY).1
      go_wp2
      refine wp_region_held_drew (S := fun w' => w'.cell? ⟨rx, ox + j, none⟩ = some (.int .i64 x) ∧ w'.cell? ⟨ry, oy + j, none⟩ = some (.int .i64 y)) (by kernel_rfl) ?_ (fun hHeld => ?_)
      · exact ⟨dL, dM⟩
      refine wpAnyH_take (i := 0) (v := ?_) rfl (by kernel_rfl) (by kernel_rfl) (by kernel_rfl) (fun _ _ _ h => h) (Or.inl ⟨by rfl, ?_⟩) (by assumption) ?_
      rotate_left
      · (intro w hSw; (try dsimp only at hSw); first | (go_simp; done) | (go_simp; with_reducible rfl))
      try simp only [List.getElem_toArray, List.getElem_cons_succ, List.getElem_cons_zero, Act.put, List.setIfInBounds_toArray, List.set_cons_zero, List.set_cons_succ]
      refine wpAnyH_take (i := 1) (v := ?_) rfl (by kernel_rfl) (by kernel_rfl) (by kernel_rfl) (fun _ _ _ h => h) (Or.inl ⟨by rfl, ?_⟩) (by assumption) ?_
      rotate_left
      · (intro w hSw; (try dsimp only at hSw); first | (go_simp; done) | (go_simp; with_reducible rfl))
      try simp only [List.getElem_toArray, List.getElem_cons_succ, List.getElem_cons_zero, Act.put, List.setIfInBounds_toArray, List.set_cons_zero, List.set_cons_succ]
      refine wpAnyH_take (i := 2) (v := ?_) rfl (by kernel_rfl) (by kernel_rfl) (by kernel_rfl) (fun _ _ _ h => h) (Or.inl ⟨by rfl, ?_⟩) (by assumption) ?_
      rotate_left
      · (intro w hSw; (try dsimp only at hSw); first | (go_simp; done) | (go_simp; with_reducible rfl))
      try simp only [List.getElem_toArray, List.getElem_cons_succ, List.getElem_cons_zero, Act.put, List.setIfInBounds_toArray, List.set_cons_zero, List.set_cons_succ]
      refine wpAnyH_take (i := 3) (v := ?_) rfl (by kernel_rfl) (by kernel_rfl) (by kernel_rfl) (fun _ _ _ h => h) (Or.inl ⟨by rfl, ?_⟩) (by assumption) ?_
      rotate_left
      · (intro w hSw; (try dsimp only at hSw); first | (go_simp; done) | (go_simp; with_reducible rfl))
      try simp only [List.getElem_toArray, List.getElem_cons_succ, List.getElem_cons_zero, Act.put, List.setIfInBounds_toArray, List.set_cons_zero, List.set_cons_succ]
      refine wpAnyH_take (i := 4) (v := ?_) rfl (by kernel_rfl) (by kernel_rfl) (by kernel_rfl) (fun _ _ _ h => h) (Or.inl ⟨by rfl, ?_⟩) (by assumption) ?_
      rotate_left
      · (intro w hSw; (try dsimp only at hSw); first | (go_simp; done) | (go_simp; with_reducible rfl))
      try simp only [List.getElem_toArray, List.getElem_cons_succ, List.getElem_cons_zero, Act.put, List.setIfInBounds_toArray, List.set_cons_zero, List.set_cons_succ]
      refine wpAnyH_take (i := 5) (v := ?_) rfl (by kernel_rfl) (by kernel_rfl) (by kernel_rfl) (fun _ _ _ h => h) (Or.inl ⟨by rfl, ?_⟩) (by assumption) ?_
      rotate_left
      · (intro w hSw; (try dsimp only at hSw); first | (go_simp; done) | (go_simp; with_reducible rfl))
      try simp only [List.getElem_toArray, List.getElem_cons_succ, List.getElem_cons_zero, Act.put, List.setIfInBounds_toArray, List.set_cons_zero, List.set_cons_succ]
      refine wpAnyH_take (i := 6) (v := ?_) rfl (by kernel_rfl) (by kernel_rfl) (by kernel_rfl) (fun _ _ _ h => h) (Or.inl ⟨by rfl, ?_⟩) (by assumption) ?_
      rotate_left
      · (intro w hSw; (try dsimp only at hSw); first | (go_simp; done) | (go_simp; with_reducible rfl))
      try simp only [List.getElem_toArray, List.getElem_cons_succ, List.getElem_cons_zero, Act.put, List.setIfInBounds_toArray, List.set_cons_zero, List.set_cons_succ]
      refine wpAnyH_take (i := 7) (v := ?_) rfl (by kernel_rfl) (by kernel_rfl) (by kernel_rfl) (fun _ _ _ h => h) (Or.inl ⟨by rfl, ?_⟩) (by assumption) ?_
      rotate_left
      · (intro w hSw; (try dsimp only at hSw); first | (go_simp; done) | (go_simp; with_reducible rfl))
      try simp only [List.getElem_toArray, List.getElem_cons_succ, List.getElem_cons_zero, Act.put, List.setIfInBounds_toArray, List.set_cons_zero, List.set_cons_succ]
      refine wpAnyH_take (i := 8) (v := ?_) rfl (by kernel_rfl) (by kernel_rfl) (by kernel_rfl) (fun _ _ _ h => h) (Or.inl ⟨by rfl, ?_⟩) (by assumption) ?_
      rotate_left
      · (intro w hSw; (try dsimp only at hSw); first | (go_simp; done) | (go_simp; with_reducible rfl))
      try simp only [List.getElem_toArray, List.getElem_cons_succ, List.getElem_cons_zero, Act.put, List.setIfInBounds_toArray, List.set_cons_zero, List.set_cons_succ]
      refine wpAnyH_take (i := 9) (v := ?_) rfl (by kernel_rfl) (by kernel_rfl) (by kernel_rfl) (fun _ _ _ h => h) (Or.inl ⟨by rfl, ?_⟩) (by assumption) ?_
      rotate_left
      · (intro w hSw; (try dsimp only at hSw); first | (go_simp; done) | (go_simp; with_reducible rfl))
      try simp only [List.getElem_toArray, List.getElem_cons_succ, List.getElem_cons_zero, Act.put, List.setIfInBounds_toArray, List.set_cons_zero, List.set_cons_succ]
      refine wpAnyH_take (i := 11) (v := ?_) rfl (by kernel_rfl) (by kernel_rfl) (by kernel_rfl) (fun _ _ _ h => h) (Or.inl ⟨by rfl, ?_⟩) (by assumption) ?_
      rotate_left
      · (intro w hSw; (try dsimp only at hSw); first | (go_simp; done) | (go_simp; with_reducible rfl))
      try simp only [List.getElem_toArray, List.getElem_cons_succ, List.getElem_cons_zero, Act.put, List.setIfInBounds_toArray, List.set_cons_zero, List.set_cons_succ]
      refine wpAnyH_take (i := 12) (v := ?_) rfl (by kernel_rfl) (by kernel_rfl) (by kernel_rfl) (fun _ _ _ h => h) (Or.inl ⟨by rfl, ?_⟩) (by assumption) ?_
      rotate_left
      · (intro w hSw; (try dsimp only at hSw); first | (go_simp; done) | (go_simp; with_reducible rfl))
      try simp only [List.getElem_toArray, List.getElem_cons_succ, List.getElem_cons_zero, Act.put, List.setIfInBounds_toArray, List.set_cons_zero, List.set_cons_succ]
      refine wpAnyH_take (i := 13) (v := ?_) rfl (by kernel_rfl) (by kernel_rfl) (by kernel_rfl) (fun _ _ _ h => h) (Or.inl ⟨by rfl, ?_⟩) (by assumption) ?_
      rotate_left
      · (intro w hSw; (try dsimp only at hSw); first | (go_simp; done) | (go_simp; with_reducible rfl))
      try simp only [List.getElem_toArray, List.getElem_cons_succ, List.getElem_cons_zero, Act.put, List.setIfInBounds_toArray, List.set_cons_zero, List.set_cons_succ]
      refine wpAnyH_take (i := 14) (v := ?_) rfl (by kernel_rfl) (by kernel_rfl) (by kernel_rfl) (fun _ _ _ h => h) (Or.inl ⟨by rfl, ?_⟩) (by assumption) ?_
      rotate_left
      · (intro w hSw; (try dsimp only at hSw); first | (go_simp; done) | (go_simp; with_reducible rfl))
      try simp only [List.getElem_toArray, List.getElem_cons_succ, List.getElem_cons_zero, Act.put, List.setIfInBounds_toArray, List.set_cons_zero, List.set_cons_succ]
      refine wpAnyH_take (i := 15) (v := ?_) rfl (by kernel_rfl) (by kernel_rfl) (by kernel_rfl) (fun _ _ _ h => h) (Or.inl ⟨by rfl, ?_⟩) (by assumption) ?_
      rotate_left
      · (intro w hSw; (try dsimp only at hSw); first | (go_simp; done) | (go_simp; with_reducible rfl))
      try simp only [List.getElem_toArray, List.getElem_cons_succ, List.getElem_cons_zero, Act.put, List.setIfInBounds_toArray, List.set_cons_zero, List.set_cons_succ]
      refine wpAnyH_ready (rs := [10]) (by kernel_rfl) (by simp) ?_
      refine AllReadyH.cons rfl (fun K hK => ?_) AllReadyH.nil
      go_simp
      refine (unhide HC1 _ _ (by first | exact unhide HR | exact (unhide HR).drew | exact (unhide HR).drew.drew)).mono ?_
      rintro e w1 ⟨rfl, st⟩
      obtain ⟨g1, hr2⟩ := BI.call (by first | exact unhide HR | exact (unhide HR).drew | exact (unhide HR).drew.drew) st
      clear st
      have dL := hr2.o.cell (unhide HX j hlt rfl) (unhide HNX).1
      have dM := hr2.o.cell (unhide HY j hlt rfl) (unhide HNY).1
      have HR := hide hr2
      clear hr2
      go_wp2_with fail
      refine hK.out _ _ ?_ (fun hHeld => ?_)
      · exact ⟨dL, dM⟩
      clear hK K
      try simp only [List.getElem_toArray, List.getElem_cons_succ, List.getElem_cons_zero, Act.put, List.setIfInBounds_toArray, List.set_cons_zero, List.set_cons_succ]
      refine wpAnyH_ready (rs := [16]) (by kernel_rfl) (by simp) ?_
      refine AllReadyH.cons rfl (fun K hK => ?_) AllReadyH.nil
      go_simp
      refine (unhide HC2 _ _ (by first | exact unhide HR | exact (unhide HR).drew | exact (unhide HR).drew.drew)).mono ?_
      rintro e w2 ⟨rfl, st⟩
      obtain ⟨g2, hr2⟩ := BI.call (by first | exact unhide HR | exact (unhide HR).drew | exact (unhide HR).drew.drew) st
      clear st
      have dL := hr2.o.cell (unhide HX j hlt rfl) (unhide HNX).1
      have dM := hr2.o.cell (unhide HY j hlt rfl) (unhide HNY).1
      have HR := hide hr2
      clear hr2
      go_wp2_with fail
      refine hK.out _ _ ?_ (fun hHeld => ?_)
      · exact ⟨dL, dM⟩
      clear hK K
      try simp only [List.getElem_toArray, List.getElem_cons_succ, List.getElem_cons_zero, Act.put, List.setIfInBounds_toArray, List.set_cons_zero, List.set_cons_succ]
      refine wpAnyH_ready (rs := [17]) (by kernel_rfl) (by simp) ?_
      refine AllReadyH.cons rfl (fun K hK => ?_) AllReadyH.nil
      go_simp
      refine hK.out _ _ ?_ (fun hHeld => ?_)
      · exact ⟨dL, dM⟩
      clear hK K
      try simp only [List.getElem_toArray, List.getElem_cons_succ, List.getElem_cons_zero, Act.put, List.setIfInBounds_toArray, List.set_cons_zero, List.set_cons_succ]
      refine wpAnyH_done (by kernel_rfl) ?_ _
      clear dL dM
      go_wp2
      go_roundw
      case rel => exact ⟨j + 1, by omega, by go_num, by rw [unhide HN2], g2, by rw [unhide HN2]; first | exact unhide HR | exact (unhide HR).drew⟩
      case measure => simp [intOf]; omega
    · have ej : j = n := by omega
      subst ej
      go_wp2
      go_ret
      exact ⟨rfl, g', unhide HR⟩
theorem lsMark : LsT 64 81 := ⟨Tryd.underlying64, infoMark⟩
set_option maxRecDepth 100000 in
set_option maxHeartbeats 1000000 in
theorem clone_any (b off n c : Nat) (L : List Int) (w : World) (hL : L.length = n) (hn : n ≤ 1000) (hd : Ints w b off n (at0 L)) :
    Calls Tryd.prog 92 #[.slice (some ⟨b, off, none⟩) n c] w fun e w' => ∃ X cap, e = .returned (.slice (some ⟨X, 0, none⟩) n cap) ∧ w'.ownsRow w.heap.size 81 1 (.slice (some ⟨X, 0, none⟩) n cap) n (icells L) ∧ Below w.heap.size w w' := by
  have b4 : Below w.heap.size w (w.alloc (.cells #[] 81)) := (Below.refl _ _).alloc (Nat.le_refl _) _
  obtain ⟨g, cp, w4, hrun, ow4, gr4, hg4⟩ := ints_where lsMark 64 (w.alloc (.cells #[] 81)) w.heap.size w.heap.size 0 0 [] L b off n c (own_new w _ 1) hL (hd.later b4) (by omega) (by simp)
  simp only [Nat.zero_add, List.nil_append] at hrun ow4
  have HR := hide hrun
  have B4 : Below w.heap.size w w4 := b4.trans ((mov_of_grown gr4).below (Nat.le_refl _) (by simp))
  have HO := hide ow4
  clear hrun ow4 gr4 hg4 b4 hd
  have q22 : ∀ (w : World) (a : Option Addr) (n c n' c' : Nat), (binOp .eql 64 (.slice a n c) (.slice none n' c')).run Tryd.prog w = .ok (.bool a.isNone) w := fun w a n c n' c' => Lib.run_eql_slice_nil w _ 81 a n c n' c' Tryd.underlying64
  go_enter Tryd.func92, Tryd.ntmps92
  go_wp2_with (first | (at_builtin; refine wpList_append_run _ rfl (.tmp 5) (.tmp 6) 64 rfl _ _ _ _ rfl rfl (unhide HR) ?_))
  go_wp2
  go_ret
  exact ⟨g, cp, rfl, unhide HO, B4⟩
set_option maxRecDepth 100000 in
set_option maxHeartbeats 4000000 in
theorem bunder_any (base bb gb B g : Nat) (aF aR : Addr) (s : KS) (rx cx ry cy n : Nat) (L M : List Int) (w : World) (hb : Bld w base bb gb B g aR s) (hs : Sent w base aF aR) (hbase : base ≤ w.heap.size) (hk : KOk s) (hL : L.length = n) (hM : M.length = n) (h1 : 1 ≤ n) (hn : n ≤ 100) (hcx : n ≤ cx) (hcy : n ≤ cy) (dx : Ints w rx 0 n (at0 L)) (dy : Ints w ry 0 n (at0 M)) (nx : ¬ S4 bb gb B g rx ∧ rx < w.heap.size) (ny : ¬ S4 bb gb B g ry ∧ ry < w.heap.size) (mL : MkL s L) (mM : MkL s M) :
    Calls Tryd.prog 68 #[.pointer (some ⟨bb, 0, none⟩), .slice (some ⟨rx, 0, none⟩) n cx, .slice (some ⟨ry, 0, none⟩) n cy] w fun e w' => e = .returned (.int .i64 (foldK (lessR 0) s (-1) (topL L M) (topL M L) n).2) ∧ ∃ g', BI w w' base bb gb B g g' aF aR (foldK (lessR 0) s (-1) (topL L M) (topL M L) n).1 := by
  obtain ⟨q, rfl⟩ : ∃ q, n = q + 1 := ⟨n - 1, by omega⟩
  have hki : ((q + 1 : Nat) : Int) - 1 = (q : Int) := by omega
  have hwi : IntKind.i64.wrap (q : Int) = (q : Int) := by rw [IntKind.wrap_i64]; omega
  have hqa : q ≤ cx := by omega
  have hqb : q ≤ cy := by omega
  have hqi : (q : Int) < (q : Int) + 1 := by omega
  have H0 : Hid (BI w w base bb gb B g g aF aR s) := ⟨hb, hs, Or.inl rfl, OutS.refl _ _⟩
  have tkL : (List.take q L).length = q := by rw [List.length_take]; omega
  have tkM : (List.take q M).length = q := by rw [List.length_take]; omega
  have HTL : Hid (List.take q L ++ [at0 M q] = topL L M) := by show _ = _; unfold topL; rw [hL]; rfl
  have HTM : Hid (List.take q M ++ [at0 L q] = topL M L) := by show _ = _; unfold topL; rw [hM]; rfl
  have HGL : Hid ((topL L M).length = q + 1 ∧ (topL M L).length = q + 1 ∧ MkL s (topL L M) ∧ MkL s (topL M L)) := ⟨(topL_len (by omega)).trans hL, (topL_len (by omega)).trans hM, mL.top mM (by omega) (by omega), mM.top mL (by omega) (by omega)⟩
  have HWL : Hid (∀ wr, Below w.heap.size w wr → Ints wr rx 0 q (at0 (List.take q L))) := fun wr hb i hi => by rw [at0_take hi (by rw [hL]; omega)]; exact (hb.cell (p := ⟨rx, 0 + i, none⟩) nx.2).trans (dx i (by omega))
  have HWM : Hid (∀ wr, Below w.heap.size w wr → Ints wr ry 0 q (at0 (List.take q M))) := fun wr hb i hi => by rw [at0_take hi (by rw [hM]; omega)]; exact (hb.cell (p := ⟨ry, 0 + i, none⟩) ny.2).trans (dy i (by omega))
  have qx := dx q (by omega)
  have qy := dy q (by omega)
  rw [Nat.zero_add] at qx qy
  have lx := nx.2
  have ly := ny.2
  have HK := hide hk
  obtain ⟨u, hu⟩ : ∃ u, u = foldK (lessR 0) s (-1) (topL L M) (topL M L) (q + 1) := ⟨_, rfl⟩
  rw [← hu]
  have HLS : Hid (∀ (wr : World) (Ga Ca Gb Cb : Nat), Below w.heap.size w wr → wr.ownsRow w.heap.size 81 1 (.slice (some ⟨Ga, 0, none⟩) (q + 1) Ca) (q + 1) (icells (topL L M)) → wr.ownsRow w.heap.size 81 1 (.slice (some ⟨Gb, 0, none⟩) (q + 1) Cb) (q + 1) (icells (topL M L)) →
      Calls Tryd.prog 67 #[.pointer (some ⟨bb, 0, none⟩), .slice (some ⟨Ga, 0, none⟩) (q + 1) Ca, .slice (some ⟨Gb, 0, none⟩) (q + 1) Cb] wr fun e w' => e = .returned (.int .i64 u.2) ∧ ∃ g', BI w w' base bb gb B g g' aF aR u.1) := by
    intro wr Ga Ca Gb Cb hB oa ob
    have la := own_base oa
    have lb := own_base ob
    have lga := hb.lg
    have lbb := hb.lt
    have ns : ∀ k, w.heap.size ≤ k → ¬ S4 bb gb B g k := fun k h1 h2 => by rcases h2 with e | e | e | e <;> omega
    rw [hu]
    have hc := bless_any base bb gb B g aF aR s Ga 0 Ca Gb 0 Cb (q + 1) (topL L M) (topL M L) wr (hb.later hB) (hs.below hB hbase) (Nat.le_trans hbase hB.size) hk (unhide HGL).1 (unhide HGL).2.1 hn (own_ints oa (unhide HGL).1) (own_ints ob (unhide HGL).2.1) ⟨ns _ la, (own_cap oa).2⟩ ⟨ns _ lb, (own_cap ob).2⟩ (unhide HGL).2.2.1 (unhide HGL).2.2.2
    refine hc.mono ?_
    rintro e w' ⟨rfl, g', h⟩
    exact ⟨rfl, g', h.b, h.s, (by rcases h.gs with e | e; exact Or.inl e; exact Or.inr (Nat.le_trans hB.size e)), (OutS.of (S := S4 bb gb B g) hB).trans h.o (fun _ _ h => h)⟩
  obtain ⟨xa, hxa⟩ : ∃ y, y = at0 M q := ⟨_, rfl⟩
  obtain ⟨xb, hxb⟩ : ∃ y, y = at0 L q := ⟨_, rfl⟩
  rw [← hxa] at HTL qy
  rw [← hxb] at HTM qx
  have HQX : Hid (w.cell? ⟨rx, q, none⟩ = some (.int .i64 xb) ∧ ¬ S4 bb gb B g rx) := ⟨qx, nx.1⟩
  have HQY : Hid (w.cell? ⟨ry, q, none⟩ = some (.int .i64 xa) ∧ ¬ S4 bb gb B g ry) := ⟨qy, ny.1⟩
  clear hxa hxb hb hs hk dx dy nx ny mL mM hu
  go_enter Tryd.func68, Tryd.ntmps68
  go_wp2
  refine wp_region_held_drew (S := fun w' => w'.cell? ⟨rx, q, none⟩ = some (.int .i64 xb) ∧ w'.cell? ⟨ry, q, none⟩ = some (.int .i64 xa)) (by kernel_rfl) ?_ (fun hHeld => ?_)
  · exact ⟨qx, qy⟩
  obtain ⟨wd, hwd⟩ : ∃ x, x = w.drew := ⟨_, rfl⟩
  have HB : Hid (Below w.heap.size w wd) := by show _; rw [hwd]; exact (Below.refl _ _).drew
  replace qx : wd.cell? ⟨rx, q, none⟩ = some (.int .i64 xb) := by rw [hwd]; exact qx
  replace qy : wd.cell? ⟨ry, q, none⟩ = some (.int .i64 xa) := by rw [hwd]; exact qy
  rw [← hwd]
  (try rw [← hwd] at hHeld)
  clear hwd
  refine wpAnyH_take (i := 0) (v := ?_) rfl (by kernel_rfl) (by kernel_rfl) (by kernel_rfl) (fun _ _ _ h => h) (Or.inl ⟨by rfl, ?_⟩) (by assumption) ?_
  rotate_left
  · (intro w hSw; (try dsimp only at hSw); first | (go_simp; done) | (go_simp; with_reducible rfl))
  try simp only [List.getElem_toArray, List.getElem_cons_succ, List.getElem_cons_zero, Act.put, List.setIfInBounds_toArray, List.set_cons_zero, List.set_cons_succ]
  refine wpAnyH_take (i := 1) (v := ?_) rfl (by kernel_rfl) (by kernel_rfl) (by kernel_rfl) (fun _ _ _ h => h) (Or.inl ⟨by rfl, ?_⟩) (by assumption) ?_
  rotate_left
  · (intro w hSw; (try dsimp only at hSw); first | (go_simp; done) | (go_simp; with_reducible rfl))
  try simp only [List.getElem_toArray, List.getElem_cons_succ, List.getElem_cons_zero, Act.put, List.setIfInBounds_toArray, List.set_cons_zero, List.set_cons_succ]
  refine wpAnyH_take (i := 2) (v := ?_) rfl (by kernel_rfl) (by kernel_rfl) (by kernel_rfl) (fun _ _ _ h => h) (Or.inl ⟨by rfl, ?_⟩) (by assumption) ?_
  rotate_left
  · (intro w hSw; (try dsimp only at hSw); first | (go_simp; done) | (go_simp; with_reducible rfl))
  try simp only [List.getElem_toArray, List.getElem_cons_succ, List.getElem_cons_zero, Act.put, List.setIfInBounds_toArray, List.set_cons_zero, List.set_cons_succ]
  refine wpAnyH_take (i := 3) (v := ?_) rfl (by kernel_rfl) (by kernel_rfl) (by kernel_rfl) (fun _ _ _ h => h) (Or.inl ⟨by rfl, ?_⟩) (by assumption) ?_
  rotate_left
  · (intro w hSw; (try dsimp only at hSw); first | (go_simp; done) | (go_simp; with_reducible rfl))
  try simp only [List.getElem_toArray, List.getElem_cons_succ, List.getElem_cons_zero, Act.put, List.setIfInBounds_toArray, List.set_cons_zero, List.set_cons_succ]
  refine wpAnyH_take (i := 5) (v := ?_) rfl (by kernel_rfl) (by kernel_rfl) (by kernel_rfl) (fun _ _ _ h => h) (Or.inl ⟨by rfl, ?_⟩) (by assumption) ?_
  rotate_left
  · (intro w hSw; (try dsimp only at hSw); first | (go_simp; done) | (go_simp; with_reducible rfl))
  try simp only [List.getElem_toArray, List.getElem_cons_succ, List.getElem_cons_zero, Act.put, List.setIfInBounds_toArray, List.set_cons_zero, List.set_cons_succ]
  refine wpAnyH_take (i := 6) (v := ?_) rfl (by kernel_rfl) (by kernel_rfl) (by kernel_rfl) (fun _ _ _ h => h) (Or.inl ⟨by rfl, ?_⟩) (by assumption) ?_
  rotate_left
  · (intro w hSw; (try dsimp only at hSw); first | (go_simp; done) | (go_simp; with_reducible rfl))
  try simp only [List.getElem_toArray, List.getElem_cons_succ, List.getElem_cons_zero, Act.put, List.setIfInBounds_toArray, List.set_cons_zero, List.set_cons_succ]
  refine wpAnyH_take (i := 7) (v := ?_) rfl (by kernel_rfl) (by kernel_rfl) (by kernel_rfl) (fun _ _ _ h => h) (Or.inl ⟨by rfl, ?_⟩) (by assumption) ?_
  rotate_left
  · (intro w hSw; (try dsimp only at hSw); first | (go_simp; done) | (go_simp; with_reducible rfl))
  try simp only [List.getElem_toArray, List.getElem_cons_succ, List.getElem_cons_zero, Act.put, List.setIfInBounds_toArray, List.set_cons_zero, List.set_cons_succ]
  refine wpAnyH_take (i := 8) (v := ?_) rfl (by kernel_rfl) (by kernel_rfl) (by kernel_rfl) (fun _ _ _ h => h) (Or.inl ⟨by rfl, ?_⟩) (by assumption) ?_
  rotate_left
  · (intro w hSw; (try dsimp only at hSw); first | (go_simp; done) | (go_simp; with_reducible rfl))
  try simp only [List.getElem_toArray, List.getElem_cons_succ, List.getElem_cons_zero, Act.put, List.setIfInBounds_toArray, List.set_cons_zero, List.set_cons_succ]
  refine wpAnyH_take (i := 11) (v := ?_) rfl (by kernel_rfl) (by kernel_rfl) (by kernel_rfl) (fun _ _ _ h => h) (Or.inl ⟨by rfl, ?_⟩) (by assumption) ?_
  rotate_left
  · (intro w hSw; (try dsimp only at hSw); first | (go_simp; done) | (go_simp; with_reducible rfl))
  try simp only [List.getElem_toArray, List.getElem_cons_succ, List.getElem_cons_zero, Act.put, List.setIfInBounds_toArray, List.set_cons_zero, List.set_cons_succ]
  refine wpAnyH_take (i := 12) (v := ?_) rfl (by kernel_rfl) (by kernel_rfl) (by kernel_rfl) (fun _ _ _ h => h) (Or.inl ⟨by rfl, ?_⟩) (by assumption) ?_
  rotate_left
  · (intro w hSw; (try dsimp only at hSw); first | (go_simp; done) | (go_simp; with_reducible rfl))
  try simp only [List.getElem_toArray, List.getElem_cons_succ, List.getElem_cons_zero, Act.put, List.setIfInBounds_toArray, List.set_cons_zero, List.set_cons_succ]
  refine wpAnyH_take (i := 13) (v := ?_) rfl (by kernel_rfl) (by kernel_rfl) (by kernel_rfl) (fun _ _ _ h => h) (Or.inl ⟨by rfl, ?_⟩) (by assumption) ?_
  rotate_left
  · (intro w hSw; (try dsimp only at hSw); first | (go_simp; done) | (go_simp; with_reducible rfl))
  try simp only [List.getElem_toArray, List.getElem_cons_succ, List.getElem_cons_zero, Act.put, List.setIfInBounds_toArray, List.set_cons_zero, List.set_cons_succ]
  refine wpAnyH_take (i := 15) (v := ?_) rfl (by kernel_rfl) (by kernel_rfl) (by kernel_rfl) (fun _ _ _ h => h) (Or.inl ⟨by rfl, ?_⟩) (by assumption) ?_
  rotate_left
  · (intro w hSw; (try dsimp only at hSw); first | (go_simp; done) | (go_simp; with_reducible rfl))
  try simp only [List.getElem_toArray, List.getElem_cons_succ, List.getElem_cons_zero, Act.put, List.setIfInBounds_toArray, List.set_cons_zero, List.set_cons_succ]
  refine wpAnyH_take (i := 16) (v := ?_) rfl (by kernel_rfl) (by kernel_rfl) (by kernel_rfl) (fun _ _ _ h => h) (Or.inl ⟨by rfl, ?_⟩) (by assumption) ?_
  rotate_left
  · (intro w hSw; (try dsimp only at hSw); first | (go_simp; done) | (go_simp; with_reducible rfl))
  try simp only [List.getElem_toArray, List.getElem_cons_succ, List.getElem_cons_zero, Act.put, List.setIfInBounds_toArray, List.set_cons_zero, List.set_cons_succ]
  refine wpAnyH_take (i := 17) (v := ?_) rfl (by kernel_rfl) (by kernel_rfl) (by kernel_rfl) (fun _ _ _ h => h) (Or.inl ⟨by rfl, ?_⟩) (by assumption) ?_
  rotate_left
  · (intro w hSw; (try dsimp only at hSw); first | (go_simp; done) | (go_simp; with_reducible rfl))
  try simp only [List.getElem_toArray, List.getElem_cons_succ, List.getElem_cons_zero, Act.put, List.setIfInBounds_toArray, List.set_cons_zero, List.set_cons_succ]
  refine wpAnyH_take (i := 18) (v := ?_) rfl (by kernel_rfl) (by kernel_rfl) (by kernel_rfl) (fun _ _ _ h => h) (Or.inl ⟨by rfl, ?_⟩) (by assumption) ?_
  rotate_left
  · (intro w hSw; (try dsimp only at hSw); first | (go_simp; done) | (go_simp; with_reducible rfl))
  try simp only [List.getElem_toArray, List.getElem_cons_succ, List.getElem_cons_zero, Act.put, List.setIfInBounds_toArray, List.set_cons_zero, List.set_cons_succ]
  refine wpAnyH_ready (rs := [4, 9, 19]) (by kernel_rfl) (by simp) ?_
  refine AllReadyH.cons rfl (fun K hK => ?_) (AllReadyH.cons rfl (fun K hK => ?_) (AllReadyH.cons rfl (fun K hK => ?_) AllReadyH.nil))
  · go_simp
    refine (clone_any rx 0 q cx (List.take q L) wd tkL (by omega) (unhide HWL _ (unhide HB))).mono ?_
    rintro e v4 ⟨ga, ca, rfl, o4, b4⟩
    have k4 := own_base o4
    have HOa := hide (own_mono o4 (unhide HB).size)
    have HB := hide ((unhide HB).trans (b4.mono (unhide HB).size))
    replace qx := cell_later b4 qx
    replace qy := cell_later b4 qy
    clear o4 b4 k4
    go_wp2_with fail
    refine hK.out _ _ ?_ (fun hHeld => ?_)
    · exact ⟨qx, qy⟩
    clear hK K
    try simp only [List.getElem_toArray, List.getElem_cons_succ, List.getElem_cons_zero, Act.put, List.setIfInBounds_toArray, List.set_cons_zero, List.set_cons_succ]
    refine wpAnyH_ready (rs := [9, 19]) (by kernel_rfl) (by simp) ?_
    refine AllReadyH.cons rfl (fun K hK => ?_) (AllReadyH.cons rfl (fun K hK => ?_) AllReadyH.nil)
    · go_simp
      obtain ⟨v9, hv9⟩ : ∃ x, x = v4.alloc (.cells #[.int .i64 xa] 81) := ⟨_, rfl⟩
      have b9 : Below v4.heap.size v4 v9 := by rw [hv9]; exact (Below.refl _ _).alloc (Nat.le_refl _) _
      have l9 : v4.heap.size < v9.heap.size := by rw [hv9]; simp
      have e9 : w.heap.size ≤ v4.heap.size := (unhide HB).size
      have lga := (own_cap (unhide HOa)).2
      have mga := own_base (unhide HOa)
      have HZa : Hid (Ints v9 v4.heap.size 0 1 (at0 [xa])) := fun i hi => by (obtain rfl : i = 0 := by omega); rw [hv9]; simp [go_sem, at0]
      have HOa := hide (World.ownsRow.kept (w' := v9) (unhide HOa) (grown_below b9) (by simp [Value.ownBlock]))
      have ngaZa : ga ≠ v4.heap.size := by omega
      have HB := hide ((unhide HB).trans (b9.mono (unhide HB).size))
      replace qx := cell_later b9 qx
      replace qy := cell_later b9 qy
      rw [← hv9]
      obtain ⟨Za, hZa⟩ : ∃ x, x = v4.heap.size := ⟨_, rfl⟩
      rw [← hZa] at HZa ngaZa ⊢
      have kZa : Za < v9.heap.size := by omega
      have jZa : w.heap.size ≤ Za := by omega
      clear hv9 b9 l9 e9 hZa lga mga
      refine hK.out _ _ ?_ (fun hHeld => ?_)
      · exact ⟨qx, qy⟩
      clear hK K
      try simp only [List.getElem_toArray, List.getElem_cons_succ, List.getElem_cons_zero, Act.put, List.setIfInBounds_toArray, List.set_cons_zero, List.set_cons_succ]
      refine wpAnyH_ready (rs := [10, 19]) (by kernel_rfl) (by simp) ?_
      refine AllReadyH.cons rfl (fun K hK => ?_) (AllReadyH.cons rfl (fun K hK => ?_) AllReadyH.nil)
      · have lga := (own_cap (unhide HOa)).2
        have mga := own_base (unhide HOa)
        apply step_ints (hT := lsMark) (L := List.take q L) (M := [xa]) (base := w.heap.size)
        case hgd => rfl
        case ho => rfl
        case hs => rfl
        case hown => exact unhide HOa
        case hbase => exact (unhide HB).size
        case hx => rfl
        case hM => rfl
        case hi => exact unhide HZa
        case hl => omega
        case' h => intro Ga Ca v10 o10 gr10 at10 lt10
        have HB := hide ((unhide HB).trans ((mov_of_grown gr10).below mga (unhide HB).size))
        replace qx := (mov_of_grown gr10).cell qx (by simp only; omega)
        replace qy := (mov_of_grown gr10).cell qy (by simp only; omega)
        have HRa : Hid (v10.ownsRow w.heap.size 81 1 (.slice (some ⟨Ga, 0, none⟩) (q + 1) Ca) (q + 1) (icells (topL L M))) := by have h := o10; rw [unhide HTL] at h; exact h
        clear o10 gr10 at10 lt10 HOa HZa kZa jZa lga mga
        refine hK.out _ _ ?_ (fun hHeld => ?_)
        · exact ⟨qx, qy⟩
        clear hK K
        try simp only [List.getElem_toArray, List.getElem_cons_succ, List.getElem_cons_zero, Act.put, List.setIfInBounds_toArray, List.set_cons_zero, List.set_cons_succ]
        refine wpAnyH_ready (rs := [14, 19]) (by kernel_rfl) (by simp) ?_
        refine AllReadyH.cons rfl (fun K hK => ?_) (AllReadyH.cons rfl (fun K hK => ?_) AllReadyH.nil)
        · go_simp
          refine (clone_any ry 0 q cy (List.take q M) v10 tkM (by omega) (unhide HWM _ (unhide HB))).mono ?_
          rintro e v14 ⟨gb, cb, rfl, o14, b14⟩
          have lGa := (own_cap (unhide HRa)).2
          have mGa := own_base (unhide HRa)
          have HRa := hide (World.ownsRow.kept (w' := v14) (unhide HRa) (grown_below b14) (by simp [Value.ownBlock]))
          have k14 := own_base o14
          have HOb := hide (own_mono o14 (unhide HB).size)
          have nGab : Ga ≠ gb := by omega
          have HB := hide ((unhide HB).trans (b14.mono (unhide HB).size))
          replace qx := cell_later b14 qx
          replace qy := cell_later b14 qy
          clear o14 b14 k14 lGa mGa
          go_wp2_with fail
          refine hK.out _ _ ?_ (fun hHeld => ?_)
          · exact ⟨qx, qy⟩
          clear hK K
          try simp only [List.getElem_toArray, List.getElem_cons_succ, List.getElem_cons_zero, Act.put, List.setIfInBounds_toArray, List.set_cons_zero, List.set_cons_succ]
          refine wpAnyH_ready (rs := [19]) (by kernel_rfl) (by simp) ?_
          refine AllReadyH.cons rfl (fun K hK => ?_) AllReadyH.nil
          go_simp
          obtain ⟨v19, hv19⟩ : ∃ x, x = v14.alloc (.cells #[.int .i64 xb] 81) := ⟨_, rfl⟩
          have b19 : Below v14.heap.size v14 v19 := by rw [hv19]; exact (Below.refl _ _).alloc (Nat.le_refl _) _
          have l19 : v14.heap.size < v19.heap.size := by rw [hv19]; simp
          have e19 : w.heap.size ≤ v14.heap.size := (unhide HB).size
          have lGa := (own_cap (unhide HRa)).2
          have lgb := (own_cap (unhide HOb)).2
          have mGa := own_base (unhide HRa)
          have mgb := own_base (unhide HOb)
          have HZb : Hid (Ints v19 v14.heap.size 0 1 (at0 [xb])) := fun i hi => by (obtain rfl : i = 0 := by omega); rw [hv19]; simp [go_sem, at0]
          have HRa := hide (World.ownsRow.kept (w' := v19) (unhide HRa) (grown_below b19) (by simp [Value.ownBlock]))
          have HOb := hide (World.ownsRow.kept (w' := v19) (unhide HOb) (grown_below b19) (by simp [Value.ownBlock]))
          have nGaZb : Ga ≠ v14.heap.size := by omega
          have ngbZb : gb ≠ v14.heap.size := by omega
          have HB := hide ((unhide HB).trans (b19.mono (unhide HB).size))
          replace qx := cell_later b19 qx
          replace qy := cell_later b19 qy
          rw [← hv19]
          obtain ⟨Zb, hZb⟩ : ∃ x, x = v14.heap.size := ⟨_, rfl⟩
          rw [← hZb] at HZb nGaZb ngbZb ⊢
          have kZb : Zb < v19.heap.size := by omega
          have jZb : w.heap.size ≤ Zb := by omega
          clear hv19 b19 l19 e19 hZb lGa mGa lgb mgb
          refine hK.out _ _ ?_ (fun hHeld => ?_)
          · exact ⟨qx, qy⟩
          clear hK K
          try simp only [List.getElem_toArray, List.getElem_cons_succ, List.getElem_cons_zero, Act.put, List.setIfInBounds_toArray, List.set_cons_zero, List.set_cons_succ]
          refine wpAnyH_ready (rs := [20]) (by kernel_rfl) (by simp) ?_
          refine AllReadyH.cons rfl (fun K hK => ?_) AllReadyH.nil
          have lGa := (own_cap (unhide HRa)).2
          have lgb := (own_cap (unhide HOb)).2
          have mGa := own_base (unhide HRa)
          have mgb := own_base (unhide HOb)
          apply step_ints (hT := lsMark) (L := List.take q M) (M := [xb]) (base := w.heap.size)
          case hgd => rfl
          case ho => rfl
          case hs => rfl
          case hown => exact unhide HOb
          case hbase => exact (unhide HB).size
          case hx => rfl
          case hM => rfl
          case hi => exact unhide HZb
          case hl => omega
          case' h => intro Gb Cb v20 o20 gr20 at20 lt20
          have HRa := hide (World.ownsRow.kept (w' := v20) (unhide HRa) gr20 (by simp [Value.ownBlock]; omega))
          have nGaGb : Ga ≠ Gb := by rcases at20 with e | e <;> omega
          have HB := hide ((unhide HB).trans ((mov_of_grown gr20).below mgb (unhide HB).size))
          replace qx := (mov_of_grown gr20).cell qx (by simp only; omega)
          replace qy := (mov_of_grown gr20).cell qy (by simp only; omega)
          have HRb : Hid (v20.ownsRow w.heap.size 81 1 (.slice (some ⟨Gb, 0, none⟩) (q + 1) Cb) (q + 1) (icells (topL M L))) := by have h := o20; rw [unhide HTM] at h; exact h
          clear o20 gr20 at20 lt20 HOb HZb kZb jZb lGa mGa lgb mgb
          refine hK.out _ _ ?_ (fun hHeld => ?_)
          · exact ⟨qx, qy⟩
          clear hK K
          try simp only [List.getElem_toArray, List.getElem_cons_succ, List.getElem_cons_zero, Act.put, List.setIfInBounds_toArray, List.set_cons_zero, List.set_cons_succ]
          refine wpAnyH_ready (rs := [21]) (by kernel_rfl) (by simp) ?_
          refine AllReadyH.cons rfl (fun K hK => ?_) AllReadyH.nil
          go_simp
          refine (unhide HLS _ Ga Ca Gb Cb (unhide HB) (unhide HRa) (unhide HRb)).mono ?_
          rintro e v21 ⟨rfl, g', hr⟩
          have HE := hide hr
          replace qx := hr.o.cell (unhide HQX).1 (unhide HQX).2
          replace qy := hr.o.cell (unhide HQY).1 (unhide HQY).2
          clear hr
          go_wp2_with fail
          refine hK.out _ _ ?_ (fun hHeld => ?_)
          · exact ⟨qx, qy⟩
          clear hK K
          try simp only [List.getElem_toArray, List.getElem_cons_succ, List.getElem_cons_zero, Act.put, List.setIfInBounds_toArray, List.set_cons_zero, List.set_cons_succ]
          refine wpAnyH_ready (rs := [22]) (by kernel_rfl) (by simp) ?_
          refine AllReadyH.cons rfl (fun K hK => ?_) AllReadyH.nil
          go_simp
          refine hK.out _ _ ?_ (fun hHeld => ?_)
          · exact ⟨qx, qy⟩
          clear hK K
          try simp only [List.getElem_toArray, List.getElem_cons_succ, List.getElem_cons_zero, Act.put, List.setIfInBounds_toArray, List.set_cons_zero, List.set_cons_succ]
          refine wpAnyH_done (by kernel_rfl) ?_ _
          go_wp2
          go_ret
          exact ⟨rfl, g', unhide HE⟩
        · go_simp
          obtain ⟨v19, hv19⟩ : ∃ x, x = v10.alloc (.cells #[.int .i64 xb] 81) := ⟨_, rfl⟩
          have b19 : Below v10.heap.size v10 v19 := by rw [hv19]; exact (Below.refl _ _).alloc (Nat.le_refl _) _
          have l19 : v10.heap.size < v19.heap.size := by rw [hv19]; simp
          have e19 : w.heap.size ≤ v10.heap.size := (unhide HB).size
          have lGa := (own_cap (unhide HRa)).2
          have mGa := own_base (unhide HRa)
          have HZb : Hid (Ints v19 v10.heap.size 0 1 (at0 [xb])) := fun i hi => by (obtain rfl : i = 0 := by omega); rw [hv19]; simp [go_sem, at0]
          have HRa := hide (World.ownsRow.kept (w' := v19) (unhide HRa) (grown_below b19) (by simp [Value.ownBlock]))
          have nGaZb : Ga ≠ v10.heap.size := by omega
          have HB := hide ((unhide HB).trans (b19.mono (unhide HB).size))
          replace qx := cell_later b19 qx
          replace qy := cell_later b19 qy
          rw [← hv19]
          obtain ⟨Zb, hZb⟩ : ∃ x, x = v10.heap.size := ⟨_, rfl⟩
          rw [← hZb] at HZb nGaZb ⊢
          have kZb : Zb < v19.heap.size := by omega
          have jZb : w.heap.size ≤ Zb := by omega
          clear hv19 b19 l19 e19 hZb lGa mGa
          refine hK.out _ _ ?_ (fun hHeld => ?_)
          · exact ⟨qx, qy⟩
          clear hK K
          try simp only [List.getElem_toArray, List.getElem_cons_succ, List.getElem_cons_zero, Act.put, List.setIfInBounds_toArray, List.set_cons_zero, List.set_cons_succ]
          refine wpAnyH_ready (rs := [14]) (by kernel_rfl) (by simp) ?_
          refine AllReadyH.cons rfl (fun K hK => ?_) AllReadyH.nil
          go_simp
          refine (clone_any ry 0 q cy (List.take q M) v19 tkM (by omega) (unhide HWM _ (unhide HB))).mono ?_
          rintro e v14 ⟨gb, cb, rfl, o14, b14⟩
          have lGa := (own_cap (unhide HRa)).2
          have mGa := own_base (unhide HRa)
          have HRa := hide (World.ownsRow.kept (w' := v14) (unhide HRa) (grown_below b14) (by simp [Value.ownBlock]))
          have HZb := hide ((unhide HZb).later b14)
          have k14 := own_base o14
          have HOb := hide (own_mono o14 (unhide HB).size)
          have nGab : Ga ≠ gb := by omega
          have nZbb : Zb ≠ gb := by omega
          have HB := hide ((unhide HB).trans (b14.mono (unhide HB).size))
          replace qx := cell_later b14 qx
          replace qy := cell_later b14 qy
          replace kZb : Zb < v14.heap.size := Nat.lt_of_lt_of_le kZb b14.size
          clear o14 b14 k14 lGa mGa
          go_wp2_with fail
          refine hK.out _ _ ?_ (fun hHeld => ?_)
          · exact ⟨qx, qy⟩
          clear hK K
          try simp only [List.getElem_toArray, List.getElem_cons_succ, List.getElem_cons_zero, Act.put, List.setIfInBounds_toArray, List.set_cons_zero, List.set_cons_succ]
          refine wpAnyH_ready (rs := [20]) (by kernel_rfl) (by simp) ?_
          refine AllReadyH.cons rfl (fun K hK => ?_) AllReadyH.nil
          have lGa := (own_cap (unhide HRa)).2
          have lgb := (own_cap (unhide HOb)).2
          have mGa := own_base (unhide HRa)
          have mgb := own_base (unhide HOb)
          apply step_ints (hT := lsMark) (L := List.take q M) (M := [xb]) (base := w.heap.size)
          case hgd => rfl
          case ho => rfl
          case hs => rfl
          case hown => exact unhide HOb
          case hbase => exact (unhide HB).size
          case hx => rfl
          case hM => rfl
          case hi => exact unhide HZb
          case hl => omega
          case' h => intro Gb Cb v20 o20 gr20 at20 lt20
          have HRa := hide (World.ownsRow.kept (w' := v20) (unhide HRa) gr20 (by simp [Value.ownBlock]; omega))
          have nGaGb : Ga ≠ Gb := by rcases at20 with e | e <;> omega
          have HB := hide ((unhide HB).trans ((mov_of_grown gr20).below mgb (unhide HB).size))
          replace qx := (mov_of_grown gr20).cell qx (by simp only; omega)
          replace qy := (mov_of_grown gr20).cell qy (by simp only; omega)
          have HRb : Hid (v20.ownsRow w.heap.size 81 1 (.slice (some ⟨Gb, 0, none⟩) (q + 1) Cb) (q + 1) (icells (topL M L))) := by have h := o20; rw [unhide HTM] at h; exact h
          clear o20 gr20 at20 lt20 HOb HZb kZb jZb lGa mGa lgb mgb
          refine hK.out _ _ ?_ (fun hHeld => ?_)
          · exact ⟨qx, qy⟩
          clear hK K
          try simp only [List.getElem_toArray, List.getElem_cons_succ, List.getElem_cons_zero, Act.put, List.setIfInBounds_toArray, List.set_cons_zero, List.set_cons_succ]
          refine wpAnyH_ready (rs := [21]) (by kernel_rfl) (by simp) ?_
          refine AllReadyH.cons rfl (fun K hK => ?_) AllReadyH.nil
          go_simp
          refine (unhide HLS _ Ga Ca Gb Cb (unhide HB) (unhide HRa) (unhide HRb)).mono ?_
          rintro e v21 ⟨rfl, g', hr⟩
          have HE := hide hr
          replace qx := hr.o.cell (unhide HQX).1 (unhide HQX).2
          replace qy := hr.o.cell (unhide HQY).1 (unhide HQY).2
          clear hr
          go_wp2_with fail
          refine hK.out _ _ ?_ (fun hHeld => ?_)
          · exact ⟨qx, qy⟩
          clear hK K
          try simp only [List.getElem_toArray, List.getElem_cons_succ, List.getElem_cons_zero, Act.put, List.setIfInBounds_toArray, List.set_cons_zero, List.set_cons_succ]
          refine wpAnyH_ready (rs := [22]) (by kernel_rfl) (by simp) ?_
          refine AllReadyH.cons rfl (fun K hK => ?_) AllReadyH.nil
          go_simp
          refine hK.out _ _ ?_ (fun hHeld => ?_)
          · exact ⟨qx, qy⟩
          clear hK K
          try simp only [List.getElem_toArray, List.getElem_cons_succ, List.getElem_cons_zero, Act.put, List.setIfInBounds_toArray, List.set_cons_zero, List.set_cons_succ]
          refine wpAnyH_done (by kernel_rfl) ?_ _
          go_wp2
          go_ret
          exact ⟨rfl, g', unhide HE⟩
      · go_simp
        obtain ⟨v19, hv19⟩ : ∃ x, x = v9.alloc (.cells #[.int .i64 xb] 81) := ⟨_, rfl⟩
        have b19 : Below v9.heap.size v9 v19 := by rw [hv19]; exact (Below.refl _ _).alloc (Nat.le_refl _) _
        have l19 : v9.heap.size < v19.heap.size := by rw [hv19]; simp
        have e19 : w.heap.size ≤ v9.heap.size := (unhide HB).size
        have lga := (own_cap (unhide HOa)).2
        have mga := own_base (unhide HOa)
        have HZb : Hid (Ints v19 v9.heap.size 0 1 (at0 [xb])) := fun i hi => by (obtain rfl : i = 0 := by omega); rw [hv19]; simp [go_sem, at0]
        have HOa := hide (World.ownsRow.kept (w' := v19) (unhide HOa) (grown_below b19) (by simp [Value.ownBlock]))
        have HZa := hide ((unhide HZa).later b19)
        have ngaZb : ga ≠ v9.heap.size := by omega
        have nZaZb : Za ≠ v9.heap.size := by omega
        have HB := hide ((unhide HB).trans (b19.mono (unhide HB).size))
        replace qx := cell_later b19 qx
        replace qy := cell_later b19 qy
        rw [← hv19]
        replace kZa : Za < v19.heap.size := Nat.lt_of_lt_of_le kZa b19.size
        obtain ⟨Zb, hZb⟩ : ∃ x, x = v9.heap.size := ⟨_, rfl⟩
        rw [← hZb] at HZb ngaZb nZaZb ⊢
        have kZb : Zb < v19.heap.size := by omega
        have jZb : w.heap.size ≤ Zb := by omega
        clear hv19 b19 l19 e19 hZb lga mga
        refine hK.out _ _ ?_ (fun hHeld => ?_)
        · exact ⟨qx, qy⟩
        clear hK K
        try simp only [List.getElem_toArray, List.getElem_cons_succ, List.getElem_cons_zero, Act.put, List.setIfInBounds_toArray, List.set_cons_zero, List.set_cons_succ]
        refine wpAnyH_ready (rs := [10]) (by kernel_rfl) (by simp) ?_
        refine AllReadyH.cons rfl (fun K hK => ?_) AllReadyH.nil
        have lga := (own_cap (unhide HOa)).2
        have mga := own_base (unhide HOa)
        apply step_ints (hT := lsMark) (L := List.take q L) (M := [xa]) (base := w.heap.size)
        case hgd => rfl
        case ho => rfl
        case hs => rfl
        case hown => exact unhide HOa
        case hbase => exact (unhide HB).size
        case hx => rfl
        case hM => rfl
        case hi => exact unhide HZa
        case hl => omega
        case' h => intro Ga Ca v10 o10 gr10 at10 lt10
        have HZb : Hid (Ints v10 Zb 0 1 (at0 [xb])) := fun i hi => (mov_of_grown gr10).cell (unhide HZb i hi) (by simp only; omega)
        have nZbGa : Zb ≠ Ga := by rcases at10 with e | e <;> omega
        have HB := hide ((unhide HB).trans ((mov_of_grown gr10).below mga (unhide HB).size))
        replace qx := (mov_of_grown gr10).cell qx (by simp only; omega)
        replace qy := (mov_of_grown gr10).cell qy (by simp only; omega)
        replace kZb : Zb < v10.heap.size := Nat.lt_of_lt_of_le kZb gr10.size
        have HRa : Hid (v10.ownsRow w.heap.size 81 1 (.slice (some ⟨Ga, 0, none⟩) (q + 1) Ca) (q + 1) (icells (topL L M))) := by have h := o10; rw [unhide HTL] at h; exact h
        clear o10 gr10 at10 lt10 HOa HZa kZa jZa lga mga
        refine hK.out _ _ ?_ (fun hHeld => ?_)
        · exact ⟨qx, qy⟩
        clear hK K
        try simp only [List.getElem_toArray, List.getElem_cons_succ, List.getElem_cons_zero, Act.put, List.setIfInBounds_toArray, List.set_cons_zero, List.set_cons_succ]
        refine wpAnyH_ready (rs := [14]) (by kernel_rfl) (by simp) ?_
        refine AllReadyH.cons rfl (fun K hK => ?_) AllReadyH.nil
        go_simp
        refine (clone_any ry 0 q cy (List.take q M) v10 tkM (by omega) (unhide HWM _ (unhide HB))).mono ?_
        rintro e v14 ⟨gb, cb, rfl, o14, b14⟩
        have lGa := (own_cap (unhide HRa)).2
        have mGa := own_base (unhide HRa)
        have HRa := hide (World.ownsRow.kept (w' := v14) (unhide HRa) (grown_below b14) (by simp [Value.ownBlock]))
        have HZb := hide ((unhide HZb).later b14)
        have k14 := own_base o14
        have HOb := hide (own_mono o14 (unhide HB).size)
        have nGab : Ga ≠ gb := by omega
        have nZbb : Zb ≠ gb := by omega
        have HB := hide ((unhide HB).trans (b14.mono (unhide HB).size))
        replace qx := cell_later b14 qx
        replace qy := cell_later b14 qy
        replace kZb : Zb < v14.heap.size := Nat.lt_of_lt_of_le kZb b14.size
        clear o14 b14 k14 lGa mGa
        go_wp2_with fail
        refine hK.out _ _ ?_ (fun hHeld => ?_)
        · exact ⟨qx, qy⟩
        clear hK K
        try simp only [List.getElem_toArray, List.getElem_cons_succ, List.getElem_cons_zero, Act.put, List.setIfInBounds_toArray, List.set_cons_zero, List.set_cons_succ]
        refine wpAnyH_ready (rs := [20]) (by kernel_rfl) (by simp) ?_
        refine AllReadyH.cons rfl (fun K hK => ?_) AllReadyH.nil
        have lGa := (own_cap (unhide HRa)).2
        have lgb := (own_cap (unhide HOb)).2
        have mGa := own_base (unhide HRa)
        have mgb := own_base (unhide HOb)
        apply step_ints (hT := lsMark) (L := List.take q M) (M := [xb]) (base := w.heap.size)
        case hgd => rfl
        case ho => rfl
        case hs => rfl
        case hown => exact unhide HOb
        case hbase => exact (unhide HB).size
        case hx => rfl
        case hM => rfl
        case hi => exact unhide HZb
        case hl => omega
        case' h => intro Gb Cb v20 o20 gr20 at20 lt20
        have HRa := hide (World.ownsRow.kept (w' := v20) (unhide HRa) gr20 (by simp [Value.ownBlock]; omega))
        have nGaGb : Ga ≠ Gb := by rcases at20 with e | e <;> omega
        have HB := hide ((unhide HB).trans ((mov_of_grown gr20).below mgb (unhide HB).size))
        replace qx := (mov_of_grown gr20).cell qx (by simp only; omega)
        replace qy := (mov_of_grown gr20).cell qy (by simp only; omega)
        have HRb : Hid (v20.ownsRow w.heap.size 81 1 (.slice (some ⟨Gb, 0, none⟩) (q + 1) Cb) (q + 1) (icells (topL M L))) := by have h := o20; rw [unhide HTM] at h; exact h
        clear o20 gr20 at20 lt20 HOb HZb kZb jZb lGa mGa lgb mgb
        refine hK.out _ _ ?_ (fun hHeld => ?_)
        · exact ⟨qx, qy⟩
        clear hK K
        try simp only [List.getElem_toArray, List.getElem_cons_succ, List.getElem_cons_zero, Act.put, List.setIfInBounds_toArray, List.set_cons_zero, List.set_cons_succ]
        refine wpAnyH_ready (rs := [21]) (by kernel_rfl) (by simp) ?_
        refine AllReadyH.cons rfl (fun K hK => ?_) AllReadyH.nil
        go_simp
        refine (unhide HLS _ Ga Ca Gb Cb (unhide HB) (unhide HRa) (unhide HRb)).mono ?_
        rintro e v21 ⟨rfl, g', hr⟩
        have HE := hide hr
        replace qx := hr.o.cell (unhide HQX).1 (unhide HQX).2
        replace qy := hr.o.cell (unhide HQY).1 (unhide HQY).2
        clear hr
        go_wp2_with fail
        refine hK.out _ _ ?_ (fun hHeld => ?_)
        · exact ⟨qx, qy⟩
        clear hK K
        try simp only [List.getElem_toArray, List.getElem_cons_succ, List.getElem_cons_zero, Act.put, List.setIfInBounds_toArray, List.set_cons_zero, List.set_cons_succ]
        refine wpAnyH_ready (rs := [22]) (by kernel_rfl) (by simp) ?_
        refine AllReadyH.cons rfl (fun K hK => ?_) AllReadyH.nil
        go_simp
        refine hK.out _ _ ?_ (fun hHeld => ?_)
        · exact ⟨qx, qy⟩
        clear hK K
        try simp only [List.getElem_toArray, List.getElem_cons_succ, List.getElem_cons_zero, Act.put, List.setIfInBounds_toArray, List.set_cons_zero, List.set_cons_succ]
        refine wpAnyH_done (by kernel_rfl) ?_ _
        go_wp2
        go_ret
        exact ⟨rfl, g', unhide HE⟩
    · go_simp
      obtain ⟨v19, hv19⟩ : ∃ x, x = v4.alloc (.cells #[.int .i64 xb] 81) := ⟨_, rfl⟩
      have b19 : Below v4.heap.size v4 v19 := by rw [hv19]; exact (Below.refl _ _).alloc (Nat.le_refl _) _
      have l19 : v4.heap.size < v19.heap.size := by rw [hv19]; simp
      have e19 : w.heap.size ≤ v4.heap.size := (unhide HB).size
      have lga := (own_cap (unhide HOa)).2
      have mga := own_base (unhide HOa)
      have HZb : Hid (Ints v19 v4.heap.size 0 1 (at0 [xb])) := fun i hi => by (obtain rfl : i = 0 := by omega); rw [hv19]; simp [go_sem, at0]
      have HOa := hide (World.ownsRow.kept (w' := v19) (unhide HOa) (grown_below b19) (by simp [Value.ownBlock]))
      have ngaZb : ga ≠ v4.heap.size := by omega
      have HB := hide ((unhide HB).trans (b19.mono (unhide HB).size))
      replace qx := cell_later b19 qx
      replace qy := cell_later b19 qy
      rw [← hv19]
      obtain ⟨Zb, hZb⟩ : ∃ x, x = v4.heap.size := ⟨_, rfl⟩
      rw [← hZb] at HZb ngaZb ⊢
      have kZb : Zb < v19.heap.size := by omega
      have jZb : w.heap.size ≤ Zb := by omega
      clear hv19 b19 l19 e19 hZb lga mga
      refine hK.out _ _ ?_ (fun hHeld => ?_)
      · exact ⟨qx, qy⟩
      clear hK K
      try simp only [List.getElem_toArray, List.getElem_cons_succ, List.getElem_cons_zero, Act.put, List.setIfInBounds_toArray, List.set_cons_zero, List.set_cons_succ]
      refine wpAnyH_ready (rs := [9]) (by kernel_rfl) (by simp) ?_
      refine AllReadyH.cons rfl (fun K hK => ?_) AllReadyH.nil
      go_simp
      obtain ⟨v9, hv9⟩ : ∃ x, x = v19.alloc (.cells #[.int .i64 xa] 81) := ⟨_, rfl⟩
      have b9 : Below v19.heap.size v19 v9 := by rw [hv9]; exact (Below.refl _ _).alloc (Nat.le_refl _) _
      have l9 : v19.heap.size < v9.heap.size := by rw [hv9]; simp
      have e9 : w.heap.size ≤ v19.heap.size := (unhide HB).size
      have lga := (own_cap (unhide HOa)).2
      have mga := own_base (unhide HOa)
      have HZa : Hid (Ints v9 v19.heap.size 0 1 (at0 [xa])) := fun i hi => by (obtain rfl : i = 0 := by omega); rw [hv9]; simp [go_sem, at0]
      have HOa := hide (World.ownsRow.kept (w' := v9) (unhide HOa) (grown_below b9) (by simp [Value.ownBlock]))
      have HZb := hide ((unhide HZb).later b9)
      have ngaZa : ga ≠ v19.heap.size := by omega
      have nZbZa : Zb ≠ v19.heap.size := by omega
      have HB := hide ((unhide HB).trans (b9.mono (unhide HB).size))
      replace qx := cell_later b9 qx
      replace qy := cell_later b9 qy
      rw [← hv9]
      replace kZb : Zb < v9.heap.size := Nat.lt_of_lt_of_le kZb b9.size
      obtain ⟨Za, hZa⟩ : ∃ x, x = v19.heap.size := ⟨_, rfl⟩
      rw [← hZa] at HZa ngaZa nZbZa ⊢
      have kZa : Za < v9.heap.size := by omega
      have jZa : w.heap.size ≤ Za := by omega
      clear hv9 b9 l9 e9 hZa lga mga
      refine hK.out _ _ ?_ (fun hHeld => ?_)
      · exact ⟨qx, qy⟩
      clear hK K
      try simp only [List.getElem_toArray, List.getElem_cons_succ, List.getElem_cons_zero, Act.put, List.setIfInBounds_toArray, List.set_cons_zero, List.set_cons_succ]
      refine wpAnyH_ready (rs := [10]) (by kernel_rfl) (by simp) ?_
      refine AllReadyH.cons rfl (fun K hK => ?_) AllReadyH.nil
      have lga := (own_cap (unhide HOa)).2
      have mga := own_base (unhide HOa)
      apply step_ints (hT := lsMark) (L := List.take q L) (M := [xa]) (base := w.heap.size)
      case hgd => rfl
      case ho => rfl
      case hs => rfl
      case hown => exact unhide HOa
      case hbase => exact (unhide HB).size
      case hx => rfl
      case hM => rfl
      case hi => exact unhide HZa
      case hl => omega
      case' h => intro Ga Ca v10 o10 gr10 at10 lt10
      have HZb : Hid (Ints v10 Zb 0 1 (at0 [xb])) := fun i hi => (mov_of_grown gr10).cell (unhide HZb i hi) (by simp only; omega)
      have nZbGa : Zb ≠ Ga := by rcases at10 with e | e <;> omega
      have HB := hide ((unhide HB).trans ((mov_of_grown gr10).below mga (unhide HB).size))
      replace qx := (mov_of_grown gr10).cell qx (by simp only; omega)
      replace qy := (mov_of_grown gr10).cell qy (by simp only; omega)
      replace kZb : Zb < v10.heap.size := Nat.lt_of_lt_of_le kZb gr10.size
      have HRa : Hid (v10.ownsRow w.heap.size 81 1 (.slice (some ⟨Ga, 0, none⟩) (q + 1) Ca) (q + 1) (icells (topL L M))) := by have h := o10; rw [unhide HTL] at h; exact h
      clear o10 gr10 at10 lt10 HOa HZa kZa jZa lga mga
      refine hK.out _ _ ?_ (fun hHeld => ?_)
      · exact ⟨qx, qy⟩
      clear hK K
      try simp only [List.getElem_toArray, List.getElem_cons_succ, List.getElem_cons_zero, Act.put, List.setIfInBounds_toArray, List.set_cons_zero, List.set_cons_succ]
      refine wpAnyH_ready (rs := [14]) (by kernel_rfl) (by simp) ?_
      refine AllReadyH.cons rfl (fun K hK => ?_) AllReadyH.nil
      go_simp
      refine (clone_any ry 0 q cy (List.take q M) v10 tkM (by omega) (unhide HWM _ (unhide HB))).mono ?_
      rintro e v14 ⟨gb, cb, rfl, o14, b14⟩
      have lGa := (own_cap (unhide HRa)).2
      have mGa := own_base (unhide HRa)
      have HRa := hide (World.ownsRow.kept (w' := v14) (unhide HRa) (grown_below b14) (by simp [Value.ownBlock]))
      have HZb := hide ((unhide HZb).later b14)
      have k14 := own_base o14
      have HOb := hide (own_mono o14 (unhide HB).size)
      have nGab : Ga ≠ gb := by omega
      have nZbb : Zb ≠ gb := by omega
      have HB := hide ((unhide HB).trans (b14.mono (unhide HB).size))
      replace qx := cell_later b14 qx
      replace qy := cell_later b14 qy
      replace kZb : Zb < v14.heap.size := Nat.lt_of_lt_of_le kZb b14.size
      clear o14 b14 k14 lGa mGa
      go_wp2_with fail
      refine hK.out _ _ ?_ (fun hHeld => ?_)
      · exact ⟨qx, qy⟩
      clear hK K
      try simp only [List.getElem_toArray, List.getElem_cons_succ, List.getElem_cons_zero, Act.put, List.setIfInBounds_toArray, List.set_cons_zero, List.set_cons_succ]
      refine wpAnyH_ready (rs := [20]) (by kernel_rfl) (by simp) ?_
      refine AllReadyH.cons rfl (fun K hK => ?_) AllReadyH.nil
      have lGa := (own_cap (unhide HRa)).2
      have lgb := (own_cap (unhide HOb)).2
      have mGa := own_base (unhide HRa)
      have mgb := own_base (unhide HOb)
      apply step_ints (hT := lsMark) (L := List.take q M) (M := [xb]) (base := w.heap.size)
      case hgd => rfl
      case ho => rfl
      case hs => rfl
      case hown => exact unhide HOb
      case hbase => exact (unhide HB).size
      case hx => rfl
      case hM => rfl
      case hi => exact unhide HZb
      case hl => omega
      case' h => intro Gb Cb v20 o20 gr20 at20 lt20
      have HRa := hide (World.ownsRow.kept (w' := v20) (unhide HRa) gr20 (by simp [Value.ownBlock]; omega))
      have nGaGb : Ga ≠ Gb := by rcases at20 with e | e <;> omega
      have HB := hide ((unhide HB).trans ((mov_of_grown gr20).below mgb (unhide HB).size))
      replace qx := (mov_of_grown gr20).cell qx (by simp only; omega)
      replace qy := (mov_of_grown gr20).cell qy (by simp only; omega)
      have HRb : Hid (v20.ownsRow w.heap.size 81 1 (.slice (some ⟨Gb, 0, none⟩) (q + 1) Cb) (q + 1) (icells (topL M L))) := by have h := o20; rw [unhide HTM] at h; exact h
      clear o20 gr20 at20 lt20 HOb HZb kZb jZb lGa mGa lgb mgb
      refine hK.out _ _ ?_ (fun hHeld => ?_)
      · exact ⟨qx, qy⟩
      clear hK K
      try simp only [List.getElem_toArray, List.getElem_cons_succ, List.getElem_cons_zero, Act.put, List.setIfInBounds_toArray, List.set_cons_zero, List.set_cons_succ]
      refine wpAnyH_ready (rs := [21]) (by kernel_rfl) (by simp) ?_
      refine AllReadyH.cons rfl (fun K hK => ?_) AllReadyH.nil
      go_simp
      refine (unhide HLS _ Ga Ca Gb Cb (unhide HB) (unhide HRa) (unhide HRb)).mono ?_
      rintro e v21 ⟨rfl, g', hr⟩
      have HE := hide hr
      replace qx := hr.o.cell (unhide HQX).1 (unhide HQX).2
      replace qy := hr.o.cell (unhide HQY).1 (unhide HQY).2
      clear hr
      go_wp2_with fail
      refine hK.out _ _ ?_ (fun hHeld => ?_)
      · exact ⟨qx, qy⟩
      clear hK K
      try simp only [List.getElem_toArray, List.getElem_cons_succ, List.getElem_cons_zero, Act.put, List.setIfInBounds_toArray, List.set_cons_zero, List.set_cons_succ]
      refine wpAnyH_ready (rs := [22]) (by kernel_rfl) (by simp) ?_
      refine AllReadyH.cons rfl (fun K hK => ?_) AllReadyH.nil
      go_simp
      refine hK.out _ _ ?_ (fun hHeld => ?_)
      · exact ⟨qx, qy⟩
      clear hK K
      try simp only [List.getElem_toArray, List.getElem_cons_succ, List.getElem_cons_zero, Act.put, List.setIfInBounds_toArray, List.set_cons_zero, List.set_cons_succ]
      refine wpAnyH_done (by kernel_rfl) ?_ _
      go_wp2
      go_ret
      exact ⟨rfl, g', unhide HE⟩
  · go_simp
    obtain ⟨v9, hv9⟩ : ∃ x, x = wd.alloc (.cells #[.int .i64 xa] 81) := ⟨_, rfl⟩
    have b9 : Below wd.heap.size wd v9 := by rw [hv9]; exact (Below.refl _ _).alloc (Nat.le_refl _) _
    have l9 : wd.heap.size < v9.heap.size := by rw [hv9]; simp
    have e9 : w.heap.size ≤ wd.heap.size := (unhide HB).size
    have HZa : Hid (Ints v9 wd.heap.size 0 1 (at0 [xa])) := fun i hi => by (obtain rfl : i = 0 := by omega); rw [hv9]; simp [go_sem, at0]
    have HB := hide ((unhide HB).trans (b9.mono (unhide HB).size))
    replace qx := cell_later b9 qx
    replace qy := cell_later b9 qy
    rw [← hv9]
    obtain ⟨Za, hZa⟩ : ∃ x, x = wd.heap.size := ⟨_, rfl⟩
    rw [← hZa] at HZa  ⊢
    have kZa : Za < v9.heap.size := by omega
    have jZa : w.heap.size ≤ Za := by omega
    clear hv9 b9 l9 e9 hZa
    refine hK.out _ _ ?_ (fun hHeld => ?_)
    · exact ⟨qx, qy⟩
    clear hK K
    try simp only [List.getElem_toArray, List.getElem_cons_succ, List.getElem_cons_zero, Act.put, List.setIfInBounds_toArray, List.set_cons_zero, List.set_cons_succ]
    refine wpAnyH_ready (rs := [4, 19]) (by kernel_rfl) (by simp) ?_
    refine AllReadyH.cons rfl (fun K hK => ?_) (AllReadyH.cons rfl (fun K hK => ?_) AllReadyH.nil)
    · go_simp
      refine (clone_any rx 0 q cx (List.take q L) v9 tkL (by omega) (unhide HWL _ (unhide HB))).mono ?_
      rintro e v4 ⟨ga, ca, rfl, o4, b4⟩
      have HZa := hide ((unhide HZa).later b4)
      have k4 := own_base o4
      have HOa := hide (own_mono o4 (unhide HB).size)
      have nZaa : Za ≠ ga := by omega
      have HB := hide ((unhide HB).trans (b4.mono (unhide HB).size))
      replace qx := cell_later b4 qx
      replace qy := cell_later b4 qy
      replace kZa : Za < v4.heap.size := Nat.lt_of_lt_of_le kZa b4.size
      clear o4 b4 k4
      go_wp2_with fail
      refine hK.out _ _ ?_ (fun hHeld => ?_)
      · exact ⟨qx, qy⟩
      clear hK K
      try simp only [List.getElem_toArray, List.getElem_cons_succ, List.getElem_cons_zero, Act.put, List.setIfInBounds_toArray, List.set_cons_zero, List.set_cons_succ]
      refine wpAnyH_ready (rs := [10, 19]) (by kernel_rfl) (by simp) ?_
      refine AllReadyH.cons rfl (fun K hK => ?_) (AllReadyH.cons rfl (fun K hK => ?_) AllReadyH.nil)
      · have lga := (own_cap (unhide HOa)).2
        have mga := own_base (unhide HOa)
        apply step_ints (hT := lsMark) (L := List.take q L) (M := [xa]) (base := w.heap.size)
        case hgd => rfl
        case ho => rfl
        case hs => rfl
        case hown => exact unhide HOa
        case hbase => exact (unhide HB).size
        case hx => rfl
        case hM => rfl
        case hi => exact unhide HZa
        case hl => omega
        case' h => intro Ga Ca v10 o10 gr10 at10 lt10
        have HB := hide ((unhide HB).trans ((mov_of_grown gr10).below mga (unhide HB).size))
        replace qx := (mov_of_grown gr10).cell qx (by simp only; omega)
        replace qy := (mov_of_grown gr10).cell qy (by simp only; omega)
        have HRa : Hid (v10.ownsRow w.heap.size 81 1 (.slice (some ⟨Ga, 0, none⟩) (q + 1) Ca) (q + 1) (icells (topL L M))) := by have h := o10; rw [unhide HTL] at h; exact h
        clear o10 gr10 at10 lt10 HOa HZa kZa jZa lga mga
        refine hK.out _ _ ?_ (fun hHeld => ?_)
        · exact ⟨qx, qy⟩
        clear hK K
        try simp only [List.getElem_toArray, List.getElem_cons_succ, List.getElem_cons_zero, Act.put, List.setIfInBounds_toArray, List.set_cons_zero, List.set_cons_succ]
        refine wpAnyH_ready (rs := [14, 19]) (by kernel_rfl) (by simp) ?_
        refine AllReadyH.cons rfl (fun K hK => ?_) (AllReadyH.cons rfl (fun K hK => ?_) AllReadyH.nil)
        · go_simp
          refine (clone_any ry 0 q cy (List.take q M) v10 tkM (by omega) (unhide HWM _ (unhide HB))).mono ?_
          rintro e v14 ⟨gb, cb, rfl, o14, b14⟩
          have lGa := (own_cap (unhide HRa)).2
          have mGa := own_base (unhide HRa)
          have HRa := hide (World.ownsRow.kept (w' := v14) (unhide HRa) (grown_below b14) (by simp [Value.ownBlock]))
          have k14 := own_base o14
          have HOb := hide (own_mono o14 (unhide HB).size)
          have nGab : Ga ≠ gb := by omega
          have HB := hide ((unhide HB).trans (b14.mono (unhide HB).size))
          replace qx := cell_later b14 qx
          replace qy := cell_later b14 qy
          clear o14 b14 k14 lGa mGa
          go_wp2_with fail
          refine hK.out _ _ ?_ (fun hHeld => ?_)
          · exact ⟨qx, qy⟩
          clear hK K
          try simp only [List.getElem_toArray, List.getElem_cons_succ, List.getElem_cons_zero, Act.put, List.setIfInBounds_toArray, List.set_cons_zero, List.set_cons_succ]
          refine wpAnyH_ready (rs := [19]) (by kernel_rfl) (by simp) ?_
          refine AllReadyH.cons rfl (fun K hK => ?_) AllReadyH.nil
          go_simp
          obtain ⟨v19, hv19⟩ : ∃ x, x = v14.alloc (.cells #[.int .i64 xb] 81) := ⟨_, rfl⟩
          have b19 : Below v14.heap.size v14 v19 := by rw [hv19]; exact (Below.refl _ _).alloc (Nat.le_refl _) _
          have l19 : v14.heap.size < v19.heap.size := by rw [hv19]; simp
          have e19 : w.heap.size ≤ v14.heap.size := (unhide HB).size
          have lGa := (own_cap (unhide HRa)).2
          have lgb := (own_cap (unhide HOb)).2
          have mGa := own_base (unhide HRa)
          have mgb := own_base (unhide HOb)
          have HZb : Hid (Ints v19 v14.heap.size 0 1 (at0 [xb])) := fun i hi => by (obtain rfl : i = 0 := by omega); rw [hv19]; simp [go_sem, at0]
          have HRa := hide (World.ownsRow.kept (w' := v19) (unhide HRa) (grown_below b19) (by simp [Value.ownBlock]))
          have HOb := hide (World.ownsRow.kept (w' := v19) (unhide HOb) (grown_below b19) (by simp [Value.ownBlock]))
          have nGaZb : Ga ≠ v14.heap.size := by omega
          have ngbZb : gb ≠ v14.heap.size := by omega
          have HB := hide ((unhide HB).trans (b19.mono (unhide HB).size))
          replace qx := cell_later b19 qx
          replace qy := cell_later b19 qy
          rw [← hv19]
          obtain ⟨Zb, hZb⟩ : ∃ x, x = v14.heap.size := ⟨_, rfl⟩
          rw [← hZb] at HZb nGaZb ngbZb ⊢
          have kZb : Zb < v19.heap.size := by omega
          have jZb : w.heap.size ≤ Zb := by omega
          clear hv19 b19 l19 e19 hZb lGa mGa lgb mgb
          refine hK.out _ _ ?_ (fun hHeld => ?_)
          · exact ⟨qx, qy⟩
          clear hK K
          try simp only [List.getElem_toArray, List.getElem_cons_succ, List.getElem_cons_zero, Act.put, List.setIfInBounds_toArray, List.set_cons_zero, List.set_cons_succ]
          refine wpAnyH_ready (rs := [20]) (by kernel_rfl) (by simp) ?_
          refine AllReadyH.cons rfl (fun K hK => ?_) AllReadyH.nil
          have lGa := (own_cap (unhide HRa)).2
          have lgb := (own_cap (unhide HOb)).2
          have mGa := own_base (unhide HRa)
          have mgb := own_base (unhide HOb)
          apply step_ints (hT := lsMark) (L := List.take q M) (M := [xb]) (base := w.heap.size)
          case hgd => rfl
          case ho => rfl
          case hs => rfl
          case hown => exact unhide HOb
          case hbase => exact (unhide HB).size
          case hx => rfl
          case hM => rfl
          case hi => exact unhide HZb
          case hl => omega
          case' h => intro Gb Cb v20 o20 gr20 at20 lt20
          have HRa := hide (World.ownsRow.kept (w' := v20) (unhide HRa) gr20 (by simp [Value.ownBlock]; omega))
          have nGaGb : Ga ≠ Gb := by rcases at20 with e | e <;> omega
          have HB := hide ((unhide HB).trans ((mov_of_grown gr20).below mgb (unhide HB).size))
          replace qx := (mov_of_grown gr20).cell qx (by simp only; omega)
          replace qy := (mov_of_grown gr20).cell qy (by simp only; omega)
          have HRb : Hid (v20.ownsRow w.heap.size 81 1 (.slice (some ⟨Gb, 0, none⟩) (q + 1) Cb) (q + 1) (icells (topL M L))) := by have h := o20; rw [unhide HTM] at h; exact h
          clear o20 gr20 at20 lt20 HOb HZb kZb jZb lGa mGa lgb mgb
          refine hK.out _ _ ?_ (fun hHeld => ?_)
          · exact ⟨qx, qy⟩
          clear hK K
          try simp only [List.getElem_toArray, List.getElem_cons_succ, List.getElem_cons_zero, Act.put, List.setIfInBounds_toArray, List.set_cons_zero, List.set_cons_succ]
          refine wpAnyH_ready (rs := [21]) (by kernel_rfl) (by simp) ?_
          refine AllReadyH.cons rfl (fun K hK => ?_) AllReadyH.nil
          go_simp
          refine (unhide HLS _ Ga Ca Gb Cb (unhide HB) (unhide HRa) (unhide HRb)).mono ?_
          rintro e v21 ⟨rfl, g', hr⟩
          have HE := hide hr
          replace qx := hr.o.cell (unhide HQX).1 (unhide HQX).2
          replace qy := hr.o.cell (unhide HQY).1 (unhide HQY).2
          clear hr
          go_wp2_with fail
          refine hK.out _ _ ?_ (fun hHeld => ?_)
          · exact ⟨qx, qy⟩
          clear hK K
          try simp only [List.getElem_toArray, List.getElem_cons_succ, List.getElem_cons_zero, Act.put, List.setIfInBounds_toArray, List.set_cons_zero, List.set_cons_succ]
          refine wpAnyH_ready (rs := [22]) (by kernel_rfl) (by simp) ?_
          refine AllReadyH.cons rfl (fun K hK => ?_) AllReadyH.nil
          go_simp
          refine hK.out _ _ ?_ (fun hHeld => ?_)
          · exact ⟨qx, qy⟩
          clear hK K
          try simp only [List.getElem_toArray, List.getElem_cons_succ, List.getElem_cons_zero, Act.put, List.setIfInBounds_toArray, List.set_cons_zero, List.set_cons_succ]
          refine wpAnyH_done (by kernel_rfl) ?_ _
          go_wp2
          go_ret
          exact ⟨rfl, g', unhide HE⟩
        · go_simp
          obtain ⟨v19, hv19⟩ : ∃ x, x = v10.alloc (.cells #[.int .i64 xb] 81) := ⟨_, rfl⟩
          have b19 : Below v10.heap.size v10 v19 := by rw [hv19]; exact (Below.refl _ _).alloc (Nat.le_refl _) _
          have l19 : v10.heap.size < v19.heap.size := by rw [hv19]; simp
          have e19 : w.heap.size ≤ v10.heap.size := (unhide HB).size
          have lGa := (own_cap (unhide HRa)).2
          have mGa := own_base (unhide HRa)
          have HZb : Hid (Ints v19 v10.heap.size 0 1 (at0 [xb])) := fun i hi => by (obtain rfl : i = 0 := by omega); rw [hv19]; simp [go_sem, at0]
          have HRa := hide (World.ownsRow.kept (w' := v19) (unhide HRa) (grown_below b19) (by simp [Value.ownBlock]))
          have nGaZb : Ga ≠ v10.heap.size := by omega
          have HB := hide ((unhide HB).trans (b19.mono (unhide HB).size))
          replace qx := cell_later b19 qx
          replace qy := cell_later b19 qy
          rw [← hv19]
          obtain ⟨Zb, hZb⟩ : ∃ x, x = v10.heap.size := ⟨_, rfl⟩
          rw [← hZb] at HZb nGaZb ⊢
          have kZb : Zb < v19.heap.size := by omega
          have jZb : w.heap.size ≤ Zb := by omega
          clear hv19 b19 l19 e19 hZb lGa mGa
          refine hK.out _ _ ?_ (fun hHeld => ?_)
          · exact ⟨qx, qy⟩
          clear hK K
          try simp only [List.getElem_toArray, List.getElem_cons_succ, List.getElem_cons_zero, Act.put, List.setIfInBounds_toArray, List.set_cons_zero, List.set_cons_succ]
          refine wpAnyH_ready (rs := [14]) (by kernel_rfl) (by simp) ?_
          refine AllReadyH.cons rfl (fun K hK => ?_) AllReadyH.nil
          go_simp
          refine (clone_any ry 0 q cy (List.take q M) v19 tkM (by omega) (unhide HWM _ (unhide HB))).mono ?_
          rintro e v14 ⟨gb, cb, rfl, o14, b14⟩
          have lGa := (own_cap (unhide HRa)).2
          have mGa := own_base (unhide HRa)
          have HRa := hide (World.ownsRow.kept (w' := v14) (unhide HRa) (grown_below b14) (by simp [Value.ownBlock]))
          have HZb := hide ((unhide HZb).later b14)
          have k14 := own_base o14
          have HOb := hide (own_mono o14 (unhide HB).size)
          have nGab : Ga ≠ gb := by omega
          have nZbb : Zb ≠ gb := by omega
          have HB := hide ((unhide HB).trans (b14.mono (unhide HB).size))
          replace qx := cell_later b14 qx
          replace qy := cell_later b14 qy
          replace kZb : Zb < v14.heap.size := Nat.lt_of_lt_of_le kZb b14.size
          clear o14 b14 k14 lGa mGa
          go_wp2_with fail
          refine hK.out _ _ ?_ (fun hHeld => ?_)
          · exact ⟨qx, qy⟩
          clear hK K
          try simp only [List.getElem_toArray, List.getElem_cons_succ, List.getElem_cons_zero, Act.put, List.setIfInBounds_toArray, List.set_cons_zero, List.set_cons_succ]
          refine wpAnyH_ready (rs := [20]) (by kernel_rfl) (by simp) ?_
          refine AllReadyH.cons rfl (fun K hK => ?_) AllReadyH.nil
          have lGa := (own_cap (unhide HRa)).2
          have lgb := (own_cap (unhide HOb)).2
          have mGa := own_base (unhide HRa)
          have mgb := own_base (unhide HOb)
          apply step_ints (hT := lsMark) (L := List.take q M) (M := [xb]) (base := w.heap.size)
          case hgd => rfl
          case ho => rfl
          case hs => rfl
          case hown => exact unhide HOb
          case hbase => exact (unhide HB).size
          case hx => rfl
          case hM => rfl
          case hi => exact unhide HZb
          case hl => omega
          case' h => intro Gb Cb v20 o20 gr20 at20 lt20
          have HRa := hide (World.ownsRow.kept (w' := v20) (unhide HRa) gr20 (by simp [Value.ownBlock]; omega))
          have nGaGb : Ga ≠ Gb := by rcases at20 with e | e <;> omega
          have HB := hide ((unhide HB).trans ((mov_of_grown gr20).below mgb (unhide HB).size))
          replace qx := (mov_of_grown gr20).cell qx (by simp only; omega)
          replace qy := (mov_of_grown gr20).cell qy (by simp only; omega)
          have HRb : Hid (v20.ownsRow w.heap.size 81 1 (.slice (some ⟨Gb, 0, none⟩) (q + 1) Cb) (q + 1) (icells (topL M L))) := by have h := o20; rw [unhide HTM] at h; exact h
          clear o20 gr20 at20 lt20 HOb HZb kZb jZb lGa mGa lgb mgb
          refine hK.out _ _ ?_ (fun hHeld => ?_)
          · exact ⟨qx, qy⟩
          clear hK K
          try simp only [List.getElem_toArray, List.getElem_cons_succ, List.getElem_cons_zero, Act.put, List.setIfInBounds_toArray, List.set_cons_zero, List.set_cons_succ]
          refine wpAnyH_ready (rs := [21]) (by kernel_rfl) (by simp) ?_
          refine AllReadyH.cons rfl (fun K hK => ?_) AllReadyH.nil
          go_simp
          refine (unhide HLS _ Ga Ca Gb Cb (unhide HB) (unhide HRa) (unhide HRb)).mono ?_
          rintro e v21 ⟨rfl, g', hr⟩
          have HE := hide hr
          replace qx := hr.o.cell (unhide HQX).1 (unhide HQX).2
          replace qy := hr.o.cell (unhide HQY).1 (unhide HQY).2
          clear hr
          go_wp2_with fail
          refine hK.out _ _ ?_ (fun hHeld => ?_)
          · exact ⟨qx, qy⟩
          clear hK K
          try simp only [List.getElem_toArray, List.getElem_cons_succ, List.getElem_cons_zero, Act.put, List.setIfInBounds_toArray, List.set_cons_zero, List.set_cons_succ]
          refine wpAnyH_ready (rs := [22]) (by kernel_rfl) (by simp) ?_
          refine AllReadyH.cons rfl (fun K hK => ?_) AllReadyH.nil
          go_simp
          refine hK.out _ _ ?_ (fun hHeld => ?_)
          · exact ⟨qx, qy⟩
          clear hK K
          try simp only [List.getElem_toArray, List.getElem_cons_succ, List.getElem_cons_zero, Act.put, List.setIfInBounds_toArray, List.set_cons_zero, List.set_cons_succ]
          refine wpAnyH_done (by kernel_rfl) ?_ _
          go_wp2
          go_ret
          exact ⟨rfl, g', unhide HE⟩
      · go_simp
        obtain ⟨v19, hv19⟩ : ∃ x, x = v4.alloc (.cells #[.int .i64 xb] 81) := ⟨_, rfl⟩
        have b19 : Below v4.heap.size v4 v19 := by rw [hv19]; exact (Below.refl _ _).alloc (Nat.le_refl _) _
        have l19 : v4.heap.size < v19.heap.size := by rw [hv19]; simp
        have e19 : w.heap.size ≤ v4.heap.size := (unhide HB).size
        have lga := (own_cap (unhide HOa)).2
        have mga := own_base (unhide HOa)
        have HZb : Hid (Ints v19 v4.heap.size 0 1 (at0 [xb])) := fun i hi => by (obtain rfl : i = 0 := by omega); rw [hv19]; simp [go_sem, at0]
        have HOa := hide (World.ownsRow.kept (w' := v19) (unhide HOa) (grown_below b19) (by simp [Value.ownBlock]))
        have HZa := hide ((unhide HZa).later b19)
        have ngaZb : ga ≠ v4.heap.size := by omega
        have nZaZb : Za ≠ v4.heap.size := by omega
        have HB := hide ((unhide HB).trans (b19.mono (unhide HB).size))
        replace qx := cell_later b19 qx
        replace qy := cell_later b19 qy
        rw [← hv19]
        replace kZa : Za < v19.heap.size := Nat.lt_of_lt_of_le kZa b19.size
        obtain ⟨Zb, hZb⟩ : ∃ x, x = v4.heap.size := ⟨_, rfl⟩
        rw [← hZb] at HZb ngaZb nZaZb ⊢
        have kZb : Zb < v19.heap.size := by omega
        have jZb : w.heap.size ≤ Zb := by omega
        clear hv19 b19 l19 e19 hZb lga mga
        refine hK.out _ _ ?_ (fun hHeld => ?_)
        · exact ⟨qx, qy⟩
        clear hK K
        try simp only [List.getElem_toArray, List.getElem_cons_succ, List.getElem_cons_zero, Act.put, List.setIfInBounds_toArray, List.set_cons_zero, List.set_cons_succ]
        refine wpAnyH_ready (rs := [10]) (by kernel_rfl) (by simp) ?_
        refine AllReadyH.cons rfl (fun K hK => ?_) AllReadyH.nil
        have lga := (own_cap (unhide HOa)).2
        have mga := own_base (unhide HOa)
        apply step_ints (hT := lsMark) (L := List.take q L) (M := [xa]) (base := w.heap.size)
        case hgd => rfl
        case ho => rfl
        case hs => rfl
        case hown => exact unhide HOa
        case hbase => exact (unhide HB).size
        case hx => rfl
        case hM => rfl
        case hi => exact unhide HZa
        case hl => omega
        case' h => intro Ga Ca v10 o10 gr10 at10 lt10
        have HZb : Hid (Ints v10 Zb 0 1 (at0 [xb])) := fun i hi => (mov_of_grown gr10).cell (unhide HZb i hi) (by simp only; omega)
        have nZbGa : Zb ≠ Ga := by rcases at10 with e | e <;> omega
        have HB := hide ((unhide HB).trans ((mov_of_grown gr10).below mga (unhide HB).size))
        replace qx := (mov_of_grown gr10).cell qx (by simp only; omega)
        replace qy := (mov_of_grown gr10).cell qy (by simp only; omega)
        replace kZb : Zb < v10.heap.size := Nat.lt_of_lt_of_le kZb gr10.size
        have HRa : Hid (v10.ownsRow w.heap.size 81 1 (.slice (some ⟨Ga, 0, none⟩) (q + 1) Ca) (q + 1) (icells (topL L M))) := by have h := o10; rw [unhide HTL] at h; exact h
        clear o10 gr10 at10 lt10 HOa HZa kZa jZa lga mga
        refine hK.out _ _ ?_ (fun hHeld => ?_)
        · exact ⟨qx, qy⟩
        clear hK K
        try simp only [List.getElem_toArray, List.getElem_cons_succ, List.getElem_cons_zero, Act.put, List.setIfInBounds_toArray, List.set_cons_zero, List.set_cons_succ]
        refine wpAnyH_ready (rs := [14]) (by kernel_rfl) (by simp) ?_
        refine AllReadyH.cons rfl (fun K hK => ?_) AllReadyH.nil
        go_simp
        refine (clone_any ry 0 q cy (List.take q M) v10 tkM (by omega) (unhide HWM _ (unhide HB))).mono ?_
        rintro e v14 ⟨gb, cb, rfl, o14, b14⟩
        have lGa := (own_cap (unhide HRa)).2
        have mGa := own_base (unhide HRa)
        have HRa := hide (World.ownsRow.kept (w' := v14) (unhide HRa) (grown_below b14) (by simp [Value.ownBlock]))
        have HZb := hide ((unhide HZb).later b14)
        have k14 := own_base o14
        have HOb := hide (own_mono o14 (unhide HB).size)
        have nGab : Ga ≠ gb := by omega
        have nZbb : Zb ≠ gb := by omega
        have HB := hide ((unhide HB).trans (b14.mono (unhide HB).size))
        replace qx := cell_later b14 qx
        replace qy := cell_later b14 qy
        replace kZb : Zb < v14.heap.size := Nat.lt_of_lt_of_le kZb b14.size
        clear o14 b14 k14 lGa mGa
        go_wp2_with fail
        refine hK.out _ _ ?_ (fun hHeld => ?_)
        · exact ⟨qx, qy⟩
        clear hK K
        try simp only [List.getElem_toArray, List.getElem_cons_succ, List.getElem_cons_zero, Act.put, List.setIfInBounds_toArray, List.set_cons_zero, List.set_cons_succ]
        refine wpAnyH_ready (rs := [20]) (by kernel_rfl) (by simp) ?_
        refine AllReadyH.cons rfl (fun K hK => ?_) AllReadyH.nil
        have lGa := (own_cap (unhide HRa)).2
        have lgb := (own_cap (unhide HOb)).2
        have mGa := own_base (unhide HRa)
        have mgb := own_base (unhide HOb)
        apply step_ints (hT := lsMark) (L := List.take q M) (M := [xb]) (base := w.heap.size)
        case hgd => rfl
        case ho => rfl
        case hs => rfl
        case hown => exact unhide HOb
        case hbase => exact (unhide HB).size
        case hx => rfl
        case hM => rfl
        case hi => exact unhide HZb
        case hl => omega
        case' h => intro Gb Cb v20 o20 gr20 at20 lt20
        have HRa := hide (World.ownsRow.kept (w' := v20) (unhide HRa) gr20 (by simp [Value.ownBlock]; omega))
        have nGaGb : Ga ≠ Gb := by rcases at20 with e | e <;> omega
        have HB := hide ((unhide HB).trans ((mov_of_grown gr20).below mgb (unhide HB).size))
        replace qx := (mov_of_grown gr20).cell qx (by simp only; omega)
        replace qy := (mov_of_grown gr20).cell qy (by simp only; omega)
        have HRb : Hid (v20.ownsRow w.heap.size 81 1 (.slice (some ⟨Gb, 0, none⟩) (q + 1) Cb) (q + 1) (icells (topL M L))) := by have h := o20; rw [unhide HTM] at h; exact h
        clear o20 gr20 at20 lt20 HOb HZb kZb jZb lGa mGa lgb mgb
        refine hK.out _ _ ?_ (fun hHeld => ?_)
        · exact ⟨qx, qy⟩
        clear hK K
        try simp only [List.getElem_toArray, List.getElem_cons_succ, List.getElem_cons_zero, Act.put, List.setIfInBounds_toArray, List.set_cons_zero, List.set_cons_succ]
        refine wpAnyH_ready (rs := [21]) (by kernel_rfl) (by simp) ?_
        refine AllReadyH.cons rfl (fun K hK => ?_) AllReadyH.nil
        go_simp
        refine (unhide HLS _ Ga Ca Gb Cb (unhide HB) (unhide HRa) (unhide HRb)).mono ?_
        rintro e v21 ⟨rfl, g', hr⟩
        have HE := hide hr
        replace qx := hr.o.cell (unhide HQX).1 (unhide HQX).2
        replace qy := hr.o.cell (unhide HQY).1 (unhide HQY).2
        clear hr
        go_wp2_with fail
        refine hK.out _ _ ?_ (fun hHeld => ?_)
        · exact ⟨qx, qy⟩
        clear hK K
        try simp only [List.getElem_toArray, List.getElem_cons_succ, List.getElem_cons_zero, Act.put, List.setIfInBounds_toArray, List.set_cons_zero, List.set_cons_succ]
        refine wpAnyH_ready (rs := [22]) (by kernel_rfl) (by simp) ?_
        refine AllReadyH.cons rfl (fun K hK => ?_) AllReadyH.nil
        go_simp
        refine hK.out _ _ ?_ (fun hHeld => ?_)
        · exact ⟨qx, qy⟩
        clear hK K
        try simp only [List.getElem_toArray, List.getElem_cons_succ, List.getElem_cons_zero, Act.put, List.setIfInBounds_toArray, List.set_cons_zero, List.set_cons_succ]
        refine wpAnyH_done (by kernel_rfl) ?_ _
        go_wp2
        go_ret
        exact ⟨rfl, g', unhide HE⟩
    · go_simp
      obtain ⟨v19, hv19⟩ : ∃ x, x = v9.alloc (.cells #[.int .i64 xb] 81) := ⟨_, rfl⟩
      have b19 : Below v9.heap.size v9 v19 := by rw [hv19]; exact (Below.refl _ _).alloc (Nat.le_refl _) _
      have l19 : v9.heap.size < v19.heap.size := by rw [hv19]; simp
      have e19 : w.heap.size ≤ v9.heap.size := (unhide HB).size
      have HZb : Hid (Ints v19 v9.heap.size 0 1 (at0 [xb])) := fun i hi => by (obtain rfl : i = 0 := by omega); rw [hv19]; simp [go_sem, at0]
      have HZa := hide ((unhide HZa).later b19)
      have nZaZb : Za ≠ v9.heap.size := by omega
      have HB := hide ((unhide HB).trans (b19.mono (unhide HB).size))
      replace qx := cell_later b19 qx
      replace qy := cell_later b19 qy
      rw [← hv19]
      replace kZa : Za < v19.heap.size := Nat.lt_of_lt_of_le kZa b19.size
      obtain ⟨Zb, hZb⟩ : ∃ x, x = v9.heap.size := ⟨_, rfl⟩
      rw [← hZb] at HZb nZaZb ⊢
      have kZb : Zb < v19.heap.size := by omega
      have jZb : w.heap.size ≤ Zb := by omega
      clear hv19 b19 l19 e19 hZb
      refine hK.out _ _ ?_ (fun hHeld => ?_)
      · exact ⟨qx, qy⟩
      clear hK K
      try simp only [List.getElem_toArray, List.getElem_cons_succ, List.getElem_cons_zero, Act.put, List.setIfInBounds_toArray, List.set_cons_zero, List.set_cons_succ]
      refine wpAnyH_ready (rs := [4]) (by kernel_rfl) (by simp) ?_
      refine AllReadyH.cons rfl (fun K hK => ?_) AllReadyH.nil
      go_simp
      refine (clone_any rx 0 q cx (List.take q L) v19 tkL (by omega) (unhide HWL _ (unhide HB))).mono ?_
      rintro e v4 ⟨ga, ca, rfl, o4, b4⟩
      have HZa := hide ((unhide HZa).later b4)
      have HZb := hide ((unhide HZb).later b4)
      have k4 := own_base o4
      have HOa := hide (own_mono o4 (unhide HB).size)
      have nZaa : Za ≠ ga := by omega
      have nZba : Zb ≠ ga := by omega
      have HB := hide ((unhide HB).trans (b4.mono (unhide HB).size))
      replace qx := cell_later b4 qx
      replace qy := cell_later b4 qy
      replace kZa : Za < v4.heap.size := Nat.lt_of_lt_of_le kZa b4.size
      replace kZb : Zb < v4.heap.size := Nat.lt_of_lt_of_le kZb b4.size
      clear o4 b4 k4
      go_wp2_with fail
      refine hK.out _ _ ?_ (fun hHeld => ?_)
      · exact ⟨qx, qy⟩
      clear hK K
      try simp only [List.getElem_toArray, List.getElem_cons_succ, List.getElem_cons_zero, Act.put, List.setIfInBounds_toArray, List.set_cons_zero, List.set_cons_succ]
      refine wpAnyH_ready (rs := [10]) (by kernel_rfl) (by simp) ?_
      refine AllReadyH.cons rfl (fun K hK => ?_) AllReadyH.nil
      have lga := (own_cap (unhide HOa)).2
      have mga := own_base (unhide HOa)
      apply step_ints (hT := lsMark) (L := List.take q L) (M := [xa]) (base := w.heap.size)
      case hgd => rfl
      case ho => rfl
      case hs => rfl
      case hown => exact unhide HOa
      case hbase => exact (unhide HB).size
      case hx => rfl
      case hM => rfl
      case hi => exact unhide HZa
      case hl => omega
      case' h => intro Ga Ca v10 o10 gr10 at10 lt10
      have HZb : Hid (Ints v10 Zb 0 1 (at0 [xb])) := fun i hi => (mov_of_grown gr10).cell (unhide HZb i hi) (by simp only; omega)
      have nZbGa : Zb ≠ Ga := by rcases at10 with e | e <;> omega
      have HB := hide ((unhide HB).trans ((mov_of_grown gr10).below mga (unhide HB).size))
      replace qx := (mov_of_grown gr10).cell qx (by simp only; omega)
      replace qy := (mov_of_grown gr10).cell qy (by simp only; omega)
      replace kZb : Zb < v10.heap.size := Nat.lt_of_lt_of_le kZb gr10.size
      have HRa : Hid (v10.ownsRow w.heap.size 81 1 (.slice (some ⟨Ga, 0, none⟩) (q + 1) Ca) (q + 1) (icells (topL L M))) := by have h := o10; rw [unhide HTL] at h; exact h
      clear o10 gr10 at10 lt10 HOa HZa kZa jZa lga mga
      refine hK.out _ _ ?_ (fun hHeld => ?_)
      · exact ⟨qx, qy⟩
      clear hK K
      try simp only [List.getElem_toArray, List.getElem_cons_succ, List.getElem_cons_zero, Act.put, List.setIfInBounds_toArray, List.set_cons_zero, List.set_cons_succ]
      refine wpAnyH_ready (rs := [14]) (by kernel_rfl) (by simp) ?_
      refine AllReadyH.cons rfl (fun K hK => ?_) AllReadyH.nil
      go_simp
      refine (clone_any ry 0 q cy (List.take q M) v10 tkM (by omega) (unhide HWM _ (unhide HB))).mono ?_
      rintro e v14 ⟨gb, cb, rfl, o14, b14⟩
      have lGa := (own_cap (unhide HRa)).2
      have mGa := own_base (unhide HRa)
      have HRa := hide (World.ownsRow.kept (w' := v14) (unhide HRa) (grown_below b14) (by simp [Value.ownBlock]))
      have HZb := hide ((unhide HZb).later b14)
      have k14 := own_base o14
      have HOb := hide (own_mono o14 (unhide HB).size)
      have nGab : Ga ≠ gb := by omega
      have nZbb : Zb ≠ gb := by omega
      have HB := hide ((unhide HB).trans (b14.mono (unhide HB).size))
      replace qx := cell_later b14 qx
      replace qy := cell_later b14 qy
      replace kZb : Zb < v14.heap.size := Nat.lt_of_lt_of_le kZb b14.size
      clear o14 b14 k14 lGa mGa
      go_wp2_with fail
      refine hK.out _ _ ?_ (fun hHeld => ?_)
      · exact ⟨qx, qy⟩
      clear hK K
      try simp only [List.getElem_toArray, List.getElem_cons_succ, List.getElem_cons_zero, Act.put, List.setIfInBounds_toArray, List.set_cons_zero, List.set_cons_succ]
      refine wpAnyH_ready (rs := [20]) (by kernel_rfl) (by simp) ?_
      refine AllReadyH.cons rfl (fun K hK => ?_) AllReadyH.nil
      have lGa := (own_cap (unhide HRa)).2
      have lgb := (own_cap (unhide HOb)).2
      have mGa := own_base (unhide HRa)
      have mgb := own_base (unhide HOb)
      apply step_ints (hT := lsMark) (L := List.take q M) (M := [xb]) (base := w.heap.size)
      case hgd => rfl
      case ho => rfl
      case hs => rfl
      case hown => exact unhide HOb
      case hbase => exact (unhide HB).size
      case hx => rfl
      case hM => rfl
      case hi => exact unhide HZb
      case hl => omega
      case' h => intro Gb Cb v20 o20 gr20 at20 lt20
      have HRa := hide (World.ownsRow.kept (w' := v20) (unhide HRa) gr20 (by simp [Value.ownBlock]; omega))
      have nGaGb : Ga ≠ Gb := by rcases at20 with e | e <;> omega
      have HB := hide ((unhide HB).trans ((mov_of_grown gr20).below mgb (unhide HB).size))
      replace qx := (mov_of_grown gr20).cell qx (by simp only; omega)
      replace qy := (mov_of_grown gr20).cell qy (by simp only; omega)
      have HRb : Hid (v20.ownsRow w.heap.size 81 1 (.slice (some ⟨Gb, 0, none⟩) (q + 1) Cb) (q + 1) (icells (topL M L))) := by have h := o20; rw [unhide HTM] at h; exact h
      clear o20 gr20 at20 lt20 HOb HZb kZb jZb lGa mGa lgb mgb
      refine hK.out _ _ ?_ (fun hHeld => ?_)
      · exact ⟨qx, qy⟩
      clear hK K
      try simp only [List.getElem_toArray, List.getElem_cons_succ, List.getElem_cons_zero, Act.put, List.setIfInBounds_toArray, List.set_cons_zero, List.set_cons_succ]
      refine wpAnyH_ready (rs := [21]) (by kernel_rfl) (by simp) ?_
      refine AllReadyH.cons rfl (fun K hK => ?_) AllReadyH.nil
      go_simp
      refine (unhide HLS _ Ga Ca Gb Cb (unhide HB) (unhide HRa) (unhide HRb)).mono ?_
      rintro e v21 ⟨rfl, g', hr⟩
      have HE := hide hr
      replace qx := hr.o.cell (unhide HQX).1 (unhide HQX).2
      replace qy := hr.o.cell (unhide HQY).1 (unhide HQY).2
      clear hr
      go_wp2_with fail
      refine hK.out _ _ ?_ (fun hHeld => ?_)
      · exact ⟨qx, qy⟩
      clear hK K
      try simp only [List.getElem_toArray, List.getElem_cons_succ, List.getElem_cons_zero, Act.put, List.setIfInBounds_toArray, List.set_cons_zero, List.set_cons_succ]
      refine wpAnyH_ready (rs := [22]) (by kernel_rfl) (by simp) ?_
      refine AllReadyH.cons rfl (fun K hK => ?_) AllReadyH.nil
      go_simp
      refine hK.out _ _ ?_ (fun hHeld => ?_)
      · exact ⟨qx, qy⟩
      clear hK K
      try simp only [List.getElem_toArray, List.getElem_cons_succ, List.getElem_cons_zero, Act.put, List.setIfInBounds_toArray, List.set_cons_zero, List.set_cons_succ]
      refine wpAnyH_done (by kernel_rfl) ?_ _
      go_wp2
      go_ret
      exact ⟨rfl, g', unhide HE⟩
  · go_simp
    obtain ⟨v19, hv19⟩ : ∃ x, x = wd.alloc (.cells #[.int .i64 xb] 81) := ⟨_, rfl⟩
    have b19 : Below wd.heap.size wd v19 := by rw [hv19]; exact (Below.refl _ _).alloc (Nat.le_refl _) _
    have l19 : wd.heap.size < v19.heap.size := by rw [hv19]; simp
    have e19 : w.heap.size ≤ wd.heap.size := (unhide HB).size
    have HZb : Hid (Ints v19 wd.heap.size 0 1 (at0 [xb])) := fun i hi => by (obtain rfl : i = 0 := by omega); rw [hv19]; simp [go_sem, at0]
    have HB := hide ((unhide HB).trans (b19.mono (unhide HB).size))
    replace qx := cell_later b19 qx
    replace qy := cell_later b19 qy
    rw [← hv19]
    obtain ⟨Zb, hZb⟩ : ∃ x, x = wd.heap.size := ⟨_, rfl⟩
    rw [← hZb] at HZb  ⊢
    have kZb : Zb < v19.heap.size := by omega
    have jZb : w.heap.size ≤ Zb := by omega
    clear hv19 b19 l19 e19 hZb
    refine hK.out _ _ ?_ (fun hHeld => ?_)
    · exact ⟨qx, qy⟩
    clear hK K
    try simp only [List.getElem_toArray, List.getElem_cons_succ, List.getElem_cons_zero, Act.put, List.setIfInBounds_toArray, List.set_cons_zero, List.set_cons_succ]
    refine wpAnyH_ready (rs := [4, 9]) (by kernel_rfl) (by simp) ?_
    refine AllReadyH.cons rfl (fun K hK => ?_) (AllReadyH.cons rfl (fun K hK => ?_) AllReadyH.nil)
    · go_simp
      refine (clone_any rx 0 q cx (List.take q L) v19 tkL (by omega) (unhide HWL _ (unhide HB))).mono ?_
      rintro e v4 ⟨ga, ca, rfl, o4, b4⟩
      have HZb := hide ((unhide HZb).later b4)
      have k4 := own_base o4
      have HOa := hide (own_mono o4 (unhide HB).size)
      have nZba : Zb ≠ ga := by omega
      have HB := hide ((unhide HB).trans (b4.mono (unhide HB).size))
      replace qx := cell_later b4 qx
      replace qy := cell_later b4 qy
      replace kZb : Zb < v4.heap.size := Nat.lt_of_lt_of_le kZb b4.size
      clear o4 b4 k4
      go_wp2_with fail
      refine hK.out _ _ ?_ (fun hHeld => ?_)
      · exact ⟨qx, qy⟩
      clear hK K
      try simp only [List.getElem_toArray, List.getElem_cons_succ, List.getElem_cons_zero, Act.put, List.setIfInBounds_toArray, List.set_cons_zero, List.set_cons_succ]
      refine wpAnyH_ready (rs := [9]) (by kernel_rfl) (by simp) ?_
      refine AllReadyH.cons rfl (fun K hK => ?_) AllReadyH.nil
      go_simp
      obtain ⟨v9, hv9⟩ : ∃ x, x = v4.alloc (.cells #[.int .i64 xa] 81) := ⟨_, rfl⟩
      have b9 : Below v4.heap.size v4 v9 := by rw [hv9]; exact (Below.refl _ _).alloc (Nat.le_refl _) _
      have l9 : v4.heap.size < v9.heap.size := by rw [hv9]; simp
      have e9 : w.heap.size ≤ v4.heap.size := (unhide HB).size
      have lga := (own_cap (unhide HOa)).2
      have mga := own_base (unhide HOa)
      have HZa : Hid (Ints v9 v4.heap.size 0 1 (at0 [xa])) := fun i hi => by (obtain rfl : i = 0 := by omega); rw [hv9]; simp [go_sem, at0]
      have HOa := hide (World.ownsRow.kept (w' := v9) (unhide HOa) (grown_below b9) (by simp [Value.ownBlock]))
      have HZb := hide ((unhide HZb).later b9)
      have ngaZa : ga ≠ v4.heap.size := by omega
      have nZbZa : Zb ≠ v4.heap.size := by omega
      have HB := hide ((unhide HB).trans (b9.mono (unhide HB).size))
      replace qx := cell_later b9 qx
      replace qy := cell_later b9 qy
      rw [← hv9]
      replace kZb : Zb < v9.heap.size := Nat.lt_of_lt_of_le kZb b9.size
      obtain ⟨Za, hZa⟩ : ∃ x, x = v4.heap.size := ⟨_, rfl⟩
      rw [← hZa] at HZa ngaZa nZbZa ⊢
      have kZa : Za < v9.heap.size := by omega
      have jZa : w.heap.size ≤ Za := by omega
      clear hv9 b9 l9 e9 hZa lga mga
      refine hK.out _ _ ?_ (fun hHeld => ?_)
      · exact ⟨qx, qy⟩
      clear hK K
      try simp only [List.getElem_toArray, List.getElem_cons_succ, List.getElem_cons_zero, Act.put, List.setIfInBounds_toArray, List.set_cons_zero, List.set_cons_succ]
      refine wpAnyH_ready (rs := [10]) (by kernel_rfl) (by simp) ?_
      refine AllReadyH.cons rfl (fun K hK => ?_) AllReadyH.nil
      have lga := (own_cap (unhide HOa)).2
      have mga := own_base (unhide HOa)
      apply step_ints (hT := lsMark) (L := List.take q L) (M := [xa]) (base := w.heap.size)
      case hgd => rfl
      case ho => rfl
      case hs => rfl
      case hown => exact unhide HOa
      case hbase => exact (unhide HB).size
      case hx => rfl
      case hM => rfl
      case hi => exact unhide HZa
      case hl => omega
      case' h => intro Ga Ca v10 o10 gr10 at10 lt10
      have HZb : Hid (Ints v10 Zb 0 1 (at0 [xb])) := fun i hi => (mov_of_grown gr10).cell (unhide HZb i hi) (by simp only; omega)
      have nZbGa : Zb ≠ Ga := by rcases at10 with e | e <;> omega
      have HB := hide ((unhide HB).trans ((mov_of_grown gr10).below mga (unhide HB).size))
      replace qx := (mov_of_grown gr10).cell qx (by simp only; omega)
      replace qy := (mov_of_grown gr10).cell qy (by simp only; omega)
      replace kZb : Zb < v10.heap.size := Nat.lt_of_lt_of_le kZb gr10.size
      have HRa : Hid (v10.ownsRow w.heap.size 81 1 (.slice (some ⟨Ga, 0, none⟩) (q + 1) Ca) (q + 1) (icells (topL L M))) := by have h := o10; rw [unhide HTL] at h; exact h
      clear o10 gr10 at10 lt10 HOa HZa kZa jZa lga mga
      refine hK.out _ _ ?_ (fun hHeld => ?_)
      · exact ⟨qx, qy⟩
      clear hK K
      try simp only [List.getElem_toArray, List.getElem_cons_succ, List.getElem_cons_zero, Act.put, List.setIfInBounds_toArray, List.set_cons_zero, List.set_cons_succ]
      refine wpAnyH_ready (rs := [14]) (by kernel_rfl) (by simp) ?_
      refine AllReadyH.cons rfl (fun K hK => ?_) AllReadyH.nil
      go_simp
      refine (clone_any ry 0 q cy (List.take q M) v10 tkM (by omega) (unhide HWM _ (unhide HB))).mono ?_
      rintro e v14 ⟨gb, cb, rfl, o14, b14⟩
      have lGa := (own_cap (unhide HRa)).2
      have mGa := own_base (unhide HRa)
      have HRa := hide (World.ownsRow.kept (w' := v14) (unhide HRa) (grown_below b14) (by simp [Value.ownBlock]))
      have HZb := hide ((unhide HZb).later b14)
      have k14 := own_base o14
      have HOb := hide (own_mono o14 (unhide HB).size)
      have nGab : Ga ≠ gb := by omega
      have nZbb : Zb ≠ gb := by omega
      have HB := hide ((unhide HB).trans (b14.mono (unhide HB).size))
      replace qx := cell_later b14 qx
      replace qy := cell_later b14 qy
      replace kZb : Zb < v14.heap.size := Nat.lt_of_lt_of_le kZb b14.size
      clear o14 b14 k14 lGa mGa
      go_wp2_with fail
      refine hK.out _ _ ?_ (fun hHeld => ?_)
      · exact ⟨qx, qy⟩
      clear hK K
      try simp only [List.getElem_toArray, List.getElem_cons_succ, List.getElem_cons_zero, Act.put, List.setIfInBounds_toArray, List.set_cons_zero, List.set_cons_succ]
      refine wpAnyH_ready (rs := [20]) (by kernel_rfl) (by simp) ?_
      refine AllReadyH.cons rfl (fun K hK => ?_) AllReadyH.nil
      have lGa := (own_cap (unhide HRa)).2
      have lgb := (own_cap (unhide HOb)).2
      have mGa := own_base (unhide HRa)
      have mgb := own_base (unhide HOb)
      apply step_ints (hT := lsMark) (L := List.take q M) (M := [xb]) (base := w.heap.size)
      case hgd => rfl
      case ho => rfl
      case hs => rfl
      case hown => exact unhide HOb
      case hbase => exact (unhide HB).size
      case hx => rfl
      case hM => rfl
      case hi => exact unhide HZb
      case hl => omega
      case' h => intro Gb Cb v20 o20 gr20 at20 lt20
      have HRa := hide (World.ownsRow.kept (w' := v20) (unhide HRa) gr20 (by simp [Value.ownBlock]; omega))
      have nGaGb : Ga ≠ Gb := by rcases at20 with e | e <;> omega
      have HB := hide ((unhide HB).trans ((mov_of_grown gr20).below mgb (unhide HB).size))
      replace qx := (mov_of_grown gr20).cell qx (by simp only; omega)
      replace qy := (mov_of_grown gr20).cell qy (by simp only; omega)
      have HRb : Hid (v20.ownsRow w.heap.size 81 1 (.slice (some ⟨Gb, 0, none⟩) (q + 1) Cb) (q + 1) (icells (topL M L))) := by have h := o20; rw [unhide HTM] at h; exact h
      clear o20 gr20 at20 lt20 HOb HZb kZb jZb lGa mGa lgb mgb
      refine hK.out _ _ ?_ (fun hHeld => ?_)
      · exact ⟨qx, qy⟩
      clear hK K
      try simp only [List.getElem_toArray, List.getElem_cons_succ, List.getElem_cons_zero, Act.put, List.setIfInBounds_toArray, List.set_cons_zero, List.set_cons_succ]
      refine wpAnyH_ready (rs := [21]) (by kernel_rfl) (by simp) ?_
      refine AllReadyH.cons rfl (fun K hK => ?_) AllReadyH.nil
      go_simp
      refine (unhide HLS _ Ga Ca Gb Cb (unhide HB) (unhide HRa) (unhide HRb)).mono ?_
      rintro e v21 ⟨rfl, g', hr⟩
      have HE := hide hr
      replace qx := hr.o.cell (unhide HQX).1 (unhide HQX).2
      replace qy := hr.o.cell (unhide HQY).1 (unhide HQY).2
      clear hr
      go_wp2_with fail
      refine hK.out _ _ ?_ (fun hHeld => ?_)
      · exact ⟨qx, qy⟩
      clear hK K
      try simp only [List.getElem_toArray, List.getElem_cons_succ, List.getElem_cons_zero, Act.put, List.setIfInBounds_toArray, List.set_cons_zero, List.set_cons_succ]
      refine wpAnyH_ready (rs := [22]) (by kernel_rfl) (by simp) ?_
      refine AllReadyH.cons rfl (fun K hK => ?_) AllReadyH.nil
      go_simp
      refine hK.out _ _ ?_ (fun hHeld => ?_)
      · exact ⟨qx, qy⟩
      clear hK K
      try simp only [List.getElem_toArray, List.getElem_cons_succ, List.getElem_cons_zero, Act.put, List.setIfInBounds_toArray, List.set_cons_zero, List.set_cons_succ]
      refine wpAnyH_done (by kernel_rfl) ?_ _
      go_wp2
      go_ret
      exact ⟨rfl, g', unhide HE⟩
    · go_simp
      obtain ⟨v9, hv9⟩ : ∃ x, x = v19.alloc (.cells #[.int .i64 xa] 81) := ⟨_, rfl⟩
      have b9 : Below v19.heap.size v19 v9 := by rw [hv9]; exact (Below.refl _ _).alloc (Nat.le_refl _) _
      have l9 : v19.heap.size < v9.heap.size := by rw [hv9]; simp
      have e9 : w.heap.size ≤ v19.heap.size := (unhide HB).size
      have HZa : Hid (Ints v9 v19.heap.size 0 1 (at0 [xa])) := fun i hi => by (obtain rfl : i = 0 := by omega); rw [hv9]; simp [go_sem, at0]
      have HZb := hide ((unhide HZb).later b9)
      have nZbZa : Zb ≠ v19.heap.size := by omega
      have HB := hide ((unhide HB).trans (b9.mono (unhide HB).size))
      replace qx := cell_later b9 qx
      replace qy := cell_later b9 qy
      rw [← hv9]
      replace kZb : Zb < v9.heap.size := Nat.lt_of_lt_of_le kZb b9.size
      obtain ⟨Za, hZa⟩ : ∃ x, x = v19.heap.size := ⟨_, rfl⟩
      rw [← hZa] at HZa nZbZa ⊢
      have kZa : Za < v9.heap.size := by omega
      have jZa : w.heap.size ≤ Za := by omega
      clear hv9 b9 l9 e9 hZa
      refine hK.out _ _ ?_ (fun hHeld => ?_)
      · exact ⟨qx, qy⟩
      clear hK K
      try simp only [List.getElem_toArray, List.getElem_cons_succ, List.getElem_cons_zero, Act.put, List.setIfInBounds_toArray, List.set_cons_zero, List.set_cons_succ]
      refine wpAnyH_ready (rs := [4]) (by kernel_rfl) (by simp) ?_
      refine AllReadyH.cons rfl (fun K hK => ?_) AllReadyH.nil
      go_simp
      refine (clone_any rx 0 q cx (List.take q L) v9 tkL (by omega) (unhide HWL _ (unhide HB))).mono ?_
      rintro e v4 ⟨ga, ca, rfl, o4, b4⟩
      have HZa := hide ((unhide HZa).later b4)
      have HZb := hide ((unhide HZb).later b4)
      have k4 := own_base o4
      have HOa := hide (own_mono o4 (unhide HB).size)
      have nZaa : Za ≠ ga := by omega
      have nZba : Zb ≠ ga := by omega
      have HB := hide ((unhide HB).trans (b4.mono (unhide HB).size))
      replace qx := cell_later b4 qx
      replace qy := cell_later b4 qy
      replace kZa : Za < v4.heap.size := Nat.lt_of_lt_of_le kZa b4.size
      replace kZb : Zb < v4.heap.size := Nat.lt_of_lt_of_le kZb b4.size
      clear o4 b4 k4
      go_wp2_with fail
      refine hK.out _ _ ?_ (fun hHeld => ?_)
      · exact ⟨qx, qy⟩
      clear hK K
      try simp only [List.getElem_toArray, List.getElem_cons_succ, List.getElem_cons_zero, Act.put, List.setIfInBounds_toArray, List.set_cons_zero, List.set_cons_succ]
      refine wpAnyH_ready (rs := [10]) (by kernel_rfl) (by simp) ?_
      refine AllReadyH.cons rfl (fun K hK => ?_) AllReadyH.nil
      have lga := (own_cap (unhide HOa)).2
      have mga := own_base (unhide HOa)
      apply step_ints (hT := lsMark) (L := List.take q L) (M := [xa]) (base := w.heap.size)
      case hgd => rfl
      case ho => rfl
      case hs => rfl
      case hown => exact unhide HOa
      case hbase => exact (unhide HB).size
      case hx => rfl
      case hM => rfl
      case hi => exact unhide HZa
      case hl => omega
      case' h => intro Ga Ca v10 o10 gr10 at10 lt10
      have HZb : Hid (Ints v10 Zb 0 1 (at0 [xb])) := fun i hi => (mov_of_grown gr10).cell (unhide HZb i hi) (by simp only; omega)
      have nZbGa : Zb ≠ Ga := by rcases at10 with e | e <;> omega
      have HB := hide ((unhide HB).trans ((mov_of_grown gr10).below mga (unhide HB).size))
      replace qx := (mov_of_grown gr10).cell qx (by simp only; omega)
      replace qy := (mov_of_grown gr10).cell qy (by simp only; omega)
      replace kZb : Zb < v10.heap.size := Nat.lt_of_lt_of_le kZb gr10.size
      have HRa : Hid (v10.ownsRow w.heap.size 81 1 (.slice (some ⟨Ga, 0, none⟩) (q + 1) Ca) (q + 1) (icells (topL L M))) := by have h := o10; rw [unhide HTL] at h; exact h
      clear o10 gr10 at10 lt10 HOa HZa kZa jZa lga mga
      refine hK.out _ _ ?_ (fun hHeld => ?_)
      · exact ⟨qx, qy⟩
      clear hK K
      try simp only [List.getElem_toArray, List.getElem_cons_succ, List.getElem_cons_zero, Act.put, List.setIfInBounds_toArray, List.set_cons_zero, List.set_cons_succ]
      refine wpAnyH_ready (rs := [14]) (by kernel_rfl) (by simp) ?_
      refine AllReadyH.cons rfl (fun K hK => ?_) AllReadyH.nil
      go_simp
      refine (clone_any ry 0 q cy (List.take q M) v10 tkM (by omega) (unhide HWM _ (unhide HB))).mono ?_
      rintro e v14 ⟨gb, cb, rfl, o14, b14⟩
      have lGa := (own_cap (unhide HRa)).2
      have mGa := own_base (unhide HRa)
      have HRa := hide (World.ownsRow.kept (w' := v14) (unhide HRa) (grown_below b14) (by simp [Value.ownBlock]))
      have HZb := hide ((unhide HZb).later b14)
      have k14 := own_base o14
      have HOb := hide (own_mono o14 (unhide HB).size)
      have nGab : Ga ≠ gb := by omega
      have nZbb : Zb ≠ gb := by omega
      have HB := hide ((unhide HB).trans (b14.mono (unhide HB).size))
      replace qx := cell_later b14 qx
      replace qy := cell_later b14 qy
      replace kZb : Zb < v14.heap.size := Nat.lt_of_lt_of_le kZb b14.size
      clear o14 b14 k14 lGa mGa
      go_wp2_with fail
      refine hK.out _ _ ?_ (fun hHeld => ?_)
      · exact ⟨qx, qy⟩
      clear hK K
      try simp only [List.getElem_toArray, List.getElem_cons_succ, List.getElem_cons_zero, Act.put, List.setIfInBounds_toArray, List.set_cons_zero, List.set_cons_succ]
      refine wpAnyH_ready (rs := [20]) (by kernel_rfl) (by simp) ?_
      refine AllReadyH.cons rfl (fun K hK => ?_) AllReadyH.nil
      have lGa := (own_cap (unhide HRa)).2
      have lgb := (own_cap (unhide HOb)).2
      have mGa := own_base (unhide HRa)
      have mgb := own_base (unhide HOb)
      apply step_ints (hT := lsMark) (L := List.take q M) (M := [xb]) (base := w.heap.size)
      case hgd => rfl
      case ho => rfl
      case hs => rfl
      case hown => exact unhide HOb
      case hbase => exact (unhide HB).size
      case hx => rfl
      case hM => rfl
      case hi => exact unhide HZb
      case hl => omega
      case' h => intro Gb Cb v20 o20 gr20 at20 lt20
      have HRa := hide (World.ownsRow.kept (w' := v20) (unhide HRa) gr20 (by simp [Value.ownBlock]; omega))
      have nGaGb : Ga ≠ Gb := by rcases at20 with e | e <;> omega
      have HB := hide ((unhide HB).trans ((mov_of_grown gr20).below mgb (unhide HB).size))
      replace qx := (mov_of_grown gr20).cell qx (by simp only; omega)
      replace qy := (mov_of_grown gr20).cell qy (by simp only; omega)
      have HRb : Hid (v20.ownsRow w.heap.size 81 1 (.slice (some ⟨Gb, 0, none⟩) (q + 1) Cb) (q + 1) (icells (topL M L))) := by have h := o20; rw [unhide HTM] at h; exact h
      clear o20 gr20 at20 lt20 HOb HZb kZb jZb lGa mGa lgb mgb
      refine hK.out _ _ ?_ (fun hHeld => ?_)
      · exact ⟨qx, qy⟩
      clear hK K
      try simp only [List.getElem_toArray, List.getElem_cons_succ, List.getElem_cons_zero, Act.put, List.setIfInBounds_toArray, List.set_cons_zero, List.set_cons_succ]
      refine wpAnyH_ready (rs := [21]) (by kernel_rfl) (by simp) ?_
      refine AllReadyH.cons rfl (fun K hK => ?_) AllReadyH.nil
      go_simp
      refine (unhide HLS _ Ga Ca Gb Cb (unhide HB) (unhide HRa) (unhide HRb)).mono ?_
      rintro e v21 ⟨rfl, g', hr⟩
      have HE := hide hr
      replace qx := hr.o.cell (unhide HQX).1 (unhide HQX).2
      replace qy := hr.o.cell (unhide HQY).1 (unhide HQY).2
      clear hr
      go_wp2_with fail
      refine hK.out _ _ ?_ (fun hHeld => ?_)
      · exact ⟨qx, qy⟩
      clear hK K
      try simp only [List.getElem_toArray, List.getElem_cons_succ, List.getElem_cons_zero, Act.put, List.setIfInBounds_toArray, List.set_cons_zero, List.set_cons_succ]
      refine wpAnyH_ready (rs := [22]) (by kernel_rfl) (by simp) ?_
      refine AllReadyH.cons rfl (fun K hK => ?_) AllReadyH.nil
      go_simp
      refine hK.out _ _ ?_ (fun hHeld => ?_)
      · exact ⟨qx, qy⟩
      clear hK K
      try simp only [List.getElem_toArray, List.getElem_cons_succ, List.getElem_cons_zero, Act.put, List.setIfInBounds_toArray, List.set_cons_zero, List.set_cons_succ]
      refine wpAnyH_done (by kernel_rfl) ?_ _
      go_wp2
      go_ret
      exact ⟨rfl, g', unhide HE⟩
theorem BI.row {w w1 : World} {base bb gb B g g' : Nat} {aF aR : Addr} {s : KS} (h : BI w w1 base bb gb B g g' aF aR s) (hbase : base ≤ w.heap.size) (v : Int) : RowP w (w1.alloc (.cells #[.int .i64 v] 81)) base bb gb B g g' aF aR s [v] 1 1 w1.heap.size := by
  have ba : Below w1.heap.size w1 (w1.alloc (.cells #[.int .i64 v] 81)) := (Below.refl _ _).alloc (Nat.le_refl _) _
  have lg := h.b.lg
  have lt := h.b.lt
  refine ⟨h.b.later ba, h.s.below ba (Nat.le_trans hbase h.o.size), h.gs, fun e => by rcases e with e | e | e | e <;> omega, h.o.below ba, fun i hi => ?_, ?_⟩
  · obtain rfl : i = 0 := by omega
    simp [go_sem, at0]
  · refine ⟨by simp, fun j hj => ⟨?_, by simp [go_sem]⟩⟩
    obtain rfl : j = 0 := by omega
    exact ⟨_, by simp [go_sem]; rfl⟩
set_option maxRecDepth 100000 in
set_option maxHeartbeats 2000000 in
theorem cmpG_any (base bb gb B g : Nat) (aF aR : Addr) (s : KS) (hok : s.ok = true) (op : Int) (rx cx nx ry cy ny : Nat) (L M : List Int) (w : World) (hb : Bld w base bb gb B g aR s) (hs : Sent w base aF aR) (hbase : base ≤ w.heap.size) (hk : KOk s) (hL : L.length = nx) (hM : M.length = ny) (h1 : 1 ≤ nx) (hn : nx ≤ 100) (hn' : ny ≤ 100) (hcx : nx ≤ cx) (hcy : ny ≤ cy) (dx : Ints w rx 0 nx (at0 L)) (dy : Ints w ry 0 ny (at0 M)) (nx' : ¬ S4 bb gb B g rx ∧ rx < w.heap.size) (ny' : ¬ S4 bb gb B g ry ∧ ry < w.heap.size) (mL : MkL s L) (mM : MkL s M) :
    Calls Tryd.prog 34 #[.pointer (some ⟨bb, 0, none⟩), .int .i64 op, .slice (some ⟨rx, 0, none⟩) nx cx, .slice (some ⟨ry, 0, none⟩) ny cy] w fun e w' => ((nx = ny ∧ (op = 15 ∨ op = 16 ∨ op = 17)) ∧ ∃ row, e = .returned (.slice (some ⟨row, 0, none⟩) 1 1) ∧ w.heap.size ≤ row ∧ row < w'.heap.size ∧ ∃ g', RowP w w' base bb gb B g g' aF aR (cmpK 0 op s L M).1 [(cmpK 0 op s L M).2] 1 1 row) ∨ (¬ (nx = ny ∧ (op = 15 ∨ op = 16 ∨ op = 17)) ∧ e = .returned (.slice none 0 0) ∧ Bad w' bb ∧ OutS (S4 bb gb B g) w w') := by
  have q1 := hb.f1 hok
  have z1 := hb.z 1
  have f := hs.f
  by_cases he : nx = ny
  · subst he
    have keyg : ∀ (u : KS × Int) (e : Ending) (w1 : World), (e = .returned (.int .i64 u.2) ∧ ∃ g', BI w w1 base bb gb B g g' aF aR u.1) → ∃ g', e = .returned (.int .i64 u.2) ∧ w.heap.size ≤ w1.heap.size ∧ RowP w (w1.alloc (.cells #[.int .i64 u.2] 81)) base bb gb B g g' aF aR u.1 [u.2] 1 1 w1.heap.size := fun u e w1 ⟨h1, g', h2⟩ => ⟨g', h1, h2.o.size, h2.row hbase u.2⟩
    have HKEY := hide keyg
    clear keyg
    by_cases o15 : op = 15
    · subst o15
      obtain ⟨u, hu⟩ : ∃ u, u = foldK (sameR 0) s 1 L M nx := ⟨_, rfl⟩
      have HC := hide (bsame_any base bb gb B g aF aR s rx 0 cx ry 0 cy nx L M w hb hs hbase hk hL hM hn dx dy nx' ny' mL mM)
      rw [← hu] at HC
      have HU : Hid (cmpK 0 15 s L M = u) := by show _ = _; rw [hu, ← hL]; rfl
      clear hb hs hk hL hM dx dy nx' ny' mL mM hu
      go_enter Tryd.func34, Tryd.ntmps34
      go_wp2_with fail
      refine (holdsG_any bb aF _ _ q1 z1 f).mono ?_
      rintro e w2 ⟨rfl, ⟨_, h⟩ | ⟨h, _⟩⟩
      rotate_left
      · simp at h
      subst h
      go_wp2_with fail
      refine (unhide HC).mono ?_
      rintro e w1 hp
      obtain ⟨g', rfl, l1, hR⟩ := unhide HKEY u e w1 hp
      have HR := hide hR
      clear hR hp
      go_wp2
      go_ret
      rw [unhide HU]
      exact Or.inl ⟨by simp, _, rfl, l1, (unhide HR).m.1, g', unhide HR⟩
    · have k15 : (op == 15) = false := by simp [o15]
      by_cases o16 : op = 16
      · subst o16
        obtain ⟨u, hu⟩ : ∃ u, u = foldK (lessR 0) s (-1) L M nx := ⟨_, rfl⟩
        have HC := hide (bless_any base bb gb B g aF aR s rx 0 cx ry 0 cy nx L M w hb hs hbase hk hL hM hn dx dy nx' ny' mL mM)
        rw [← hu] at HC
        have HU : Hid (cmpK 0 16 s L M = u) := by show _ = _; rw [hu, ← hL]; rfl
        clear hb hs hk hL hM dx dy nx' ny' mL mM hu
        go_enter Tryd.func34, Tryd.ntmps34
        go_wp2_with fail
        refine (holdsG_any bb aF _ _ q1 z1 f).mono ?_
        rintro e w2 ⟨rfl, ⟨_, h⟩ | ⟨h, _⟩⟩
        rotate_left
        · simp at h
        subst h
        go_wp2_with fail
        refine (unhide HC).mono ?_
        rintro e w1 hp
        obtain ⟨g', rfl, l1, hR⟩ := unhide HKEY u e w1 hp
        have HR := hide hR
        clear hR hp
        go_wp2
        go_ret
        rw [unhide HU]
        exact Or.inl ⟨by simp, _, rfl, l1, (unhide HR).m.1, g', unhide HR⟩
      · have k16 : (op == 16) = false := by simp [o16]
        by_cases o17 : op = 17
        · subst o17
          obtain ⟨u, hu⟩ : ∃ u, u = foldK (lessR 0) s (-1) (topL L M) (topL M L) nx := ⟨_, rfl⟩
          have HC := hide (bunder_any base bb gb B g aF aR s rx cx ry cy nx L M w hb hs hbase hk hL hM h1 hn hcx hcy dx dy nx' ny' mL mM)
          rw [← hu] at HC
          have HU : Hid (cmpK 0 17 s L M = u) := by show _ = _; rw [hu, ← hL]; rfl
          clear hb hs hk hL hM dx dy nx' ny' mL mM hu
          go_enter Tryd.func34, Tryd.ntmps34
          go_wp2_with fail
          refine (holdsG_any bb aF _ _ q1 z1 f).mono ?_
          rintro e w2 ⟨rfl, ⟨_, h⟩ | ⟨h, _⟩⟩
          rotate_left
          · simp at h
          subst h
          go_wp2_with fail
          refine (unhide HC).mono ?_
          rintro e w1 hp
          obtain ⟨g', rfl, l1, hR⟩ := unhide HKEY u e w1 hp
          have HR := hide hR
          clear hR hp
          go_wp2
          go_ret
          rw [unhide HU]
          exact Or.inl ⟨by simp, _, rfl, l1, (unhide HR).m.1, g', unhide HR⟩
        · have k17 : (op == 17) = false := by simp [o17]
          have HO : Hid (¬ (op = 15 ∨ op = 16 ∨ op = 17)) := fun h => by rcases h with e | e | e; exact o15 e; exact o16 e; exact o17 e
          have HQ := hide q1
          have HZ := hide z1
          clear hb hs hk hL hM dx dy nx' ny' mL mM o15 o16 o17
          go_enter Tryd.func34, Tryd.ntmps34
          go_wp2_with fail
          refine (holdsG_any bb aF _ _ q1 z1 f).mono ?_
          rintro e w2 ⟨rfl, ⟨_, h⟩ | ⟨h, _⟩⟩
          rotate_left
          · simp at h
          subst h
          go_wp2_with fail
          refine (stop_any bb (.int .i64 0) aF _ (unhide HQ) (unhide HZ)).mono ?_
          rintro e w1 ⟨rfl, rfl⟩
          go_wp2
          go_ret
          exact Or.inr ⟨fun h => unhide HO h.2, rfl, ⟨aF, World.cell?_setCell_same _ _ _ (unhide HQ)⟩, (OutS.refl _ _).mov (Mov.set (R := bb) _ _ _) (fun _ => Or.inl rfl)⟩
  · have HE := hide he
    have k1 : ((nx : Int) == (ny : Int)) = false := by simp; omega
    have HQ := hide q1
    clear hb hs hk hL hM dx dy nx' ny' mL mM
    go_enter Tryd.func34, Tryd.ntmps34
    go_wp2_with fail
    refine (holdsG_any bb aF _ _ q1 z1 f).mono ?_
    rintro e w1 ⟨rfl, ⟨h, _⟩ | ⟨_, h⟩⟩
    · simp at h; try omega
    · subst h
      go_wp2
      go_ret
      exact Or.inr ⟨fun h => unhide HE h.1, rfl, ⟨aF, World.cell?_setCell_same _ _ _ (unhide HQ)⟩, (OutS.refl _ _).mov (Mov.set (R := bb) _ _ _) (fun _ => Or.inl rfl)⟩
set_option maxRecDepth 100000 in
set_option maxHeartbeats 1000000 in
theorem cmpB_any (bb : Nat) (v aF : Addr) (op : Int) (ax : Option Addr) (nx cx : Nat) (ay : Option Addr) (ny cy : Nat) (w : World) (q1 : w.cell? ⟨bb, 1, none⟩ = some (.iface 168 (.pointer (some v)))) (f : w.cell? ⟨0, 0, none⟩ = some (.iface 168 (.pointer (some aF)))) (hx : nx ≤ 1048576) (hy : ny ≤ 1048576) :
    Calls Tryd.prog 34 #[.pointer (some ⟨bb, 0, none⟩), .int .i64 op, .slice ax nx cx, .slice ay ny cy] w fun e w' => e = .returned (.slice none 0 0) ∧ w' = w := by
  go_enter Tryd.func34, Tryd.ntmps34
  go_wp2_with fail
  refine (holdsB_any bb v aF _ _ q1 f).mono ?_
  rintro e w ⟨rfl, rfl⟩
  go_wp2
  go_ret
  exact ⟨rfl, rfl⟩
/-- What the program hands back, in memory of its own: the mark is the list's one number, or 0. -/
def ICPost (r : BR) (base : Nat) (e : Ending) (w' : World) : Prop := ∃ a cap, e = .returned (.tuple #[.agg #[.int .i64 r.m, .slice a r.n cap], .int .i64 (at0 r.L 0)]) ∧ GtsAt w' a r.n r.G ∧ OwnG w' base a r.n ∧ r.n ≤ cap ∧ (r.L.length ≠ 0 → ∃ b, a = some ⟨b, 0, none⟩)
theorem nil_IC (base : Nat) (w' : World) : ICPost nilB base (.returned (.tuple #[.agg #[.int .i64 0, .slice none 0 0], .int .i64 0])) w' := ⟨none, 0, rfl, Or.inl rfl, Or.inl rfl, Nat.le_refl _, fun h => absurd rfl h⟩
set_option maxRecDepth 100000 in
set_option maxHeartbeats 2000000 in
theorem iBitsCmp_any (m : Int) (ad : Option Addr) (n cap : Nat) (G : Nat → Gt) (op : Int) (la : Option Addr) (nl cl : Nat) (L : List Int) (lb : Option Addr) (nm cm : Nat) (M : List Int) (base : Nat) (aF aR : Addr) (w : World) (hd : GtsAt w ad n G) (hw : WG n G) (hsp : ∃ p, ad = some p ∧ p.spot = none) (hn : n ≤ 1048576)
    (hdL : IntsAt w la nl (at0 L)) (hdM : IntsAt w lb nm (at0 M)) (hL : L.length = nl) (hM : M.length = nm) (hl : nl ≤ 1048576) (hm : nm ≤ 1048576) (hWL : ∀ i, i < nl → W64 (at0 L i)) (hWM : ∀ i, i < nm → W64 (at0 M i)) (hs : Sent w base aF aR) (hbase : base ≤ w.heap.size) :
    Calls Tryd.prog 7 #[.agg #[.int .i64 m, .slice ad n cap], .int .i64 op, .slice la nl cl, .slice lb nm cm] w fun e w' => ICPost (cmpBR m n G op L M) w.heap.size e w' ∧ Below w.heap.size w w' := by
  obtain ⟨wz, hwz⟩ : ∃ wz, wz = (w.alloc (.cells #[.int .i64 m, .slice ad n cap] 25)).alloc (.cells #[.int .i64 0, .slice none 0 0] 25) := ⟨_, rfl⟩
  have BL : Below w.heap.size w wz := by rw [hwz]; exact ((Below.refl _ _).alloc (Nat.le_refl _) _).alloc (by simp) _
  have p0 : wz.cell? ⟨w.heap.size, 0, none⟩ = some (.int .i64 m) := by rw [hwz]; simp [go_sem]
  have p1 : wz.cell? ⟨w.heap.size, 1, none⟩ = some (.slice ad n cap) := by rw [hwz]; simp [go_sem]
  have s0 : wz.cell? ⟨w.heap.size + 1, 0, none⟩ = some (.int .i64 0) := by rw [hwz]; simp [go_sem]
  have s1 : wz.cell? ⟨w.heap.size + 1, 1, none⟩ = some (.slice none 0 0) := by rw [hwz]; simp [go_sem]
  have f0 : wz.frozen? ⟨w.heap.size + 1, 0, none⟩ = false := by rw [hwz]; simp [go_sem]
  have f1 : wz.frozen? ⟨w.heap.size + 1, 1, none⟩ = false := by rw [hwz]; simp [go_sem]
  have lz : wz.heap.size = w.heap.size + 2 := by rw [hwz]; simp
  have hsz : Sent wz wz.heap.size aF aR := by have h := hs.below BL hbase; exact ⟨h.f, h.r, by have := h.b; omega⟩
  have HNB := hide (newB_any m ad n cap G wz.heap.size aF aR wz (hd.later BL) hw hsp hn hsz (Nat.le_refl _))
  have HDL := hide hdL
  have HDM := hide hdM
  have HL := hide hL
  have HM := hide hM
  have HWL := hide hWL
  have HWM := hide hWM
  have f := hsz.f
  have HSZ := hide hsz
  have HZ := hide hwz
  clear hd hwz hw hsp hdL hdM hL hM hWL hWM hs hsz
  go_enter Tryd.func7, Tryd.ntmps7
  go_wp2_with fail
  rw [← unhide HZ]
  refine (unhide HNB).mono ?_
  rintro e w1 ⟨⟨bb, rfl, lbb, lbb', ⟨hP, gb, B, g, hB⟩ | ⟨hP, v, q1⟩⟩, b1⟩
  · have HB := hide hB
    have HS1 := hide ((unhide HSZ).below b1 (Nat.le_refl _))
    have l1 := b1.size
    replace f0 := (b1.frozen (p := ⟨w.heap.size + 1, 0, none⟩) (World.block_lt_of_cell? _ _ s0)).trans f0
    replace f1 := (b1.frozen (p := ⟨w.heap.size + 1, 1, none⟩) (World.block_lt_of_cell? _ _ s1)).trans f1
    replace s0 := cell_later b1 s0
    replace s1 := cell_later b1 s1
    replace f := cell_later b1 f
    replace BL := BL.trans (b1.mono BL.size)
    clear hB b1 p0 p1
    have HTA := hide (takeG_any wz.heap.size bb gb B g aF aR m n G la nl cl L w1 (unhide HB) (unhide HS1) (by omega) hP ((unhide HDL).later BL) (unhide HL) hl (unhide HWL))
    go_wp2_with fail
    refine (unhide HTA).mono ?_
    rintro e w3 (⟨hRa, rfl, lra, ira, b3⟩ | ⟨hRa, rfl, ⟨v, q1⟩, o3⟩)
    · have HB3 := hide ((unhide HB).later b3)
      have HS3 := hide ((unhide HS1).below b3 (by omega))
      have l3 := b3.size
      replace f0 := (b3.frozen (p := ⟨w.heap.size + 1, 0, none⟩) (World.block_lt_of_cell? _ _ s0)).trans f0
      replace f1 := (b3.frozen (p := ⟨w.heap.size + 1, 1, none⟩) (World.block_lt_of_cell? _ _ s1)).trans f1
      replace s0 := cell_later b3 s0
      replace s1 := cell_later b3 s1
      replace f := cell_later b3 f
      replace BL := BL.trans (b3.mono BL.size)
      have HTB := hide (takeG_any wz.heap.size bb gb B g aF aR m n G lb nm cm M w3 (unhide HB3) (unhide HS3) (by omega) hP ((unhide HDM).later BL) (unhide HM) hm (unhide HWM))
      have HIA := hide ira
      clear b3 ira
      go_wp2_with fail
      refine (unhide HTB).mono ?_
      rintro e w4 (⟨hRb, rfl, lrb, irb, b4⟩ | ⟨hRb, rfl, ⟨v, q1⟩, o4⟩)
      · have HB4 := hide ((unhide HB3).later b4)
        have HS4 := hide ((unhide HS3).below b4 (by omega))
        have l4 := b4.size
        replace HIA := hide ((unhide HIA).later b4)
        replace f0 := (b4.frozen (p := ⟨w.heap.size + 1, 0, none⟩) (World.block_lt_of_cell? _ _ s0)).trans f0
        replace f1 := (b4.frozen (p := ⟨w.heap.size + 1, 1, none⟩) (World.block_lt_of_cell? _ _ s1)).trans f1
        replace s0 := cell_later b4 s0
        replace s1 := cell_later b4 s1
        replace f := cell_later b4 f
        replace BL := BL.trans (b4.mono BL.size)
        have h4a : nl ≤ 4 := by rw [← unhide HL]; exact hRa.2.2
        have h4c : 1 ≤ nl := by rw [← unhide HL]; exact hRa.2.1
        have h4b : nm ≤ 4 := by rw [← unhide HM]; exact hRb.2.2
        have lgs := (unhide HB).lg
        have lbs := (unhide HB).lt
        have ns : ∀ k, w1.heap.size ≤ k → ¬ S4 bb gb B g k := fun k h1 h2 => by rcases h2 with e | e | e | e <;> omega
        have HTC := hide (cmpG_any wz.heap.size bb gb B g aF aR (kS m n G) rfl op w1.heap.size nl nl w3.heap.size nm nm L M w4 (unhide HB4) (unhide HS4) (by omega) (kS_ok hP) (unhide HL) (unhide HM) h4c (by omega) (by omega) (Nat.le_refl _) (Nat.le_refl _) (unhide HIA) irb ⟨ns _ (by omega), by omega⟩ ⟨ns _ (by omega), by omega⟩ (hRa.mk hP) (hRb.mk hP))
        clear b4 irb ns
        go_wp2_with fail
        refine (unhide HTC).mono ?_
        rintro e w5 (⟨⟨hE, hop⟩, row, rfl, lr1, lr2, g', hRP⟩ | ⟨hE, rfl, ⟨v, q1⟩, o5⟩)
        · subst hE
          have HN := hide (cmpBR_yes (m := m) (n := n) (G := G) (op := op) (L := L) (M := M) ⟨hP, hRa, hRb, by rw [unhide HL, unhide HM], by omega, by omega⟩)
          rw [cmpBR_z] at HN
          obtain ⟨q, hqq⟩ : ∃ q, q = cmpK 0 op (kS m n G) L M := ⟨_, rfl⟩
          rw [← hqq] at HN hRP
          clear hqq
          have HRP := hide hRP
          have hR' := hRP
          have o5 := hRP.o
          have ns : ∀ k, k < wz.heap.size → ¬ S4 bb gb B g k := fun k h1 h2 => by have := (unhide HB).low k h2; omega
          have sl := World.block_lt_of_cell? _ _ s0
          have zl := World.block_lt_of_cell? _ _ f
          replace f0 := (o5.frozen (p := ⟨w.heap.size + 1, 0, none⟩) sl (ns _ (by simp only; omega))).trans f0
          replace f1 := (o5.frozen (p := ⟨w.heap.size + 1, 1, none⟩) sl (ns _ (by simp only; omega))).trans f1
          replace s0 := o5.cell s0 (ns _ (by simp only; omega))
          replace s1 := o5.cell s1 (ns _ (by simp only; omega))
          replace f := o5.cell f (ns _ (by simp only; omega))
          replace BL := BL.trans (o5.lower (base := w.heap.size) (fun k hk => by have := (unhide HB).low k hk; omega) BL.size)
          clear sl zl
          have lw5 := o5.size
          have HO5 := hide o5
          clear o5 ns hRP
          cases hok : q.1.ok
          · have HN' : Hid (cmpBR m n G op L M = nilB) := (unhide HN).trans (brK_no hok)
            clear HN
            have HN := HN'
            have q1 := hR'.b.f0 hok
            clear hR'
            go_wp2_with fail
            refine (toldB_any bb aR _ _ _ _ q1).mono ?_
            rintro e wl ⟨rfl, bl⟩
            replace f0 := (bl.frozen (p := ⟨w.heap.size + 1, 0, none⟩) (World.block_lt_of_cell? _ _ s0)).trans f0
            replace f1 := (bl.frozen (p := ⟨w.heap.size + 1, 1, none⟩) (World.block_lt_of_cell? _ _ s1)).trans f1
            replace s0 := cell_later bl s0
            replace s1 := cell_later bl s1
            replace BL := BL.trans (bl.mono BL.size)
            clear bl
            have sl := World.block_lt_of_cell? _ _ s0
            have sl1 := World.block_lt_of_cell? _ _ s1
            simp only at sl sl1
            go_wp2
            refine bodyPost_ret (v := .tuple #[.agg #[.int .i64 0, .slice none 0 0], .int .i64 0]) (by simp [results, Tryd.results7, go_sem, s0, s1, sl]) rfl ?_
            rw [unhide HN]
            exact ⟨nil_IC _ _, (BL.trans ((mov2c wl (w.heap.size + 1) _ _).below (by omega) BL.size)).alloc (Nat.le_trans BL.size (mov2c wl (w.heap.size + 1) _ _).size) _⟩
          · have HN' : Hid (cmpBR m n G op L M = ⟨q.1.m, q.1.n, q.1.G, [q.2]⟩) := (unhide HN).trans (brK_yes hok)
            have HC := hide (toldG_any wz.heap.size bb gb B g' aR q.1 row 1 1 [q.2] w5 hR'.b hok hR'.i hR'.m.1 (by omega) (by omega))
            clear hR'
            go_wp2_with fail
            refine (unhide HC).mono ?_
            rintro e w6 ⟨c6, rfl, hG6, hI6, hM6, b6⟩
            replace f0 := (b6.frozen (p := ⟨w.heap.size + 1, 0, none⟩) (World.block_lt_of_cell? _ _ s0)).trans f0
            replace f1 := (b6.frozen (p := ⟨w.heap.size + 1, 1, none⟩) (World.block_lt_of_cell? _ _ s1)).trans f1
            replace s0 := cell_later b6 s0
            replace s1 := cell_later b6 s1
            replace BL := BL.trans (b6.mono BL.size)
            have sl := World.block_lt_of_cell? _ _ s0
            have lo6 := own_base hG6.2.1
            have lg6 := (own_cap hG6.2.1).2
            have hgl : g' < w5.heap.size := (unhide HRP).b.lg.1
            have im := hI6 0 (by omega)
            have lm := hM6.1
            obtain ⟨wv, hwv⟩ : ∃ x, x = w6.alloc (.cells #[.int .i64 q.1.m, .slice (some ⟨g', 0, none⟩) q.1.n c6] 25) := ⟨_, rfl⟩
            have bv : Below w6.heap.size w6 wv := by rw [hwv]; exact (Below.refl _ _).alloc (Nat.le_refl _) _
            have v0 : wv.cell? ⟨w6.heap.size, 0, none⟩ = some (.int .i64 q.1.m) := by rw [hwv]; simp [go_sem]
            have v1 : wv.cell? ⟨w6.heap.size, 1, none⟩ = some (.slice (some ⟨g', 0, none⟩) q.1.n c6) := by rw [hwv]; simp [go_sem]
            replace f0 := (bv.frozen (p := ⟨w.heap.size + 1, 0, none⟩) (World.block_lt_of_cell? _ _ s0)).trans f0
            replace f1 := (bv.frozen (p := ⟨w.heap.size + 1, 1, none⟩) (World.block_lt_of_cell? _ _ s1)).trans f1
            replace s0 := cell_later bv s0
            replace s1 := cell_later bv s1
            replace im := cell_later bv im
            replace BL := BL.trans (bv.mono BL.size)
            replace im : wv.cell? ⟨w5.heap.size + 1, 0, none⟩ = some (.int .i64 q.2) := by simpa [at0] using im
            have HCAP : Hid (q.1.n ≤ c6) := (own_cap hG6.2.1).1
            have HG6 := hide (show GtsAt wv (some ⟨g', 0, none⟩) q.1.n q.1.G ∧ (g' < w6.heap.size ∧ Made wv g' (q.1.n * 3)) from ⟨(own_gtsAt hG6.2.1).later bv, lg6, (own_made hG6.2.1).later bv⟩)
            have bvs := bv.size
            have HWV := hide hwv
            clear hwv bv hG6 hI6 hM6 b6
            go_wp2_with fail
            rw [← unhide HWV]
            obtain ⟨Z, hZ⟩ : ∃ x, x = w6.heap.size := ⟨_, rfl⟩
            rw [← hZ] at v0 v1 ⊢
            obtain ⟨Y, hY⟩ : ∃ x, x = w5.heap.size + 1 := ⟨_, rfl⟩
            rw [← hY] at im ⊢
            have zne : w.heap.size + 1 ≠ Z ∧ w.heap.size + 1 ≠ Y ∧ w.heap.size ≤ g' ∧ w.heap.size + 2 ≤ g' ∧ w.heap.size + 1 < wv.heap.size := by have := bvs; omega
            clear hZ hY bvs
            go_wp2
            refine wp_region_held_drew (S := fun w' => (w'.cell? ⟨Z, 0, none⟩ = some (.int .i64 q.1.m) ∧ w'.cell? ⟨Z, 1, none⟩ = some (.slice (some ⟨g', 0, none⟩) q.1.n c6)) ∧ w'.cell? ⟨Y, 0, none⟩ = some (.int .i64 q.2)) (by kernel_rfl) ?_ (fun hHeld => ?_)
            · exact ⟨⟨v0, v1⟩, im⟩
            refine wpAnyH_take (i := 0) (v := ?_) rfl (by kernel_rfl) (by kernel_rfl) (by kernel_rfl) (fun _ _ _ h => h) (Or.inl ⟨by rfl, ?_⟩) (by assumption) ?_
            rotate_left
            · (intro w hSw; (try dsimp only at hSw); first | (go_simp; done) | (go_simp; with_reducible rfl))
            try simp only [List.getElem_toArray, List.getElem_cons_succ, List.getElem_cons_zero, Act.put, List.setIfInBounds_toArray, List.set_cons_zero, List.set_cons_succ]
            refine wpAnyH_take (i := 1) (v := ?_) rfl (by kernel_rfl) (by kernel_rfl) (by kernel_rfl) (fun _ _ _ h => h) (Or.inl ⟨by rfl, ?_⟩) (by assumption) ?_
            rotate_left
            · (intro w hSw; (try dsimp only at hSw); first | (go_simp; done) | (go_simp; with_reducible rfl))
            try simp only [List.getElem_toArray, List.getElem_cons_succ, List.getElem_cons_zero, Act.put, List.setIfInBounds_toArray, List.set_cons_zero, List.set_cons_succ]
            refine wpAnyH_take (i := 2) (v := ?_) rfl (by kernel_rfl) (by kernel_rfl) (by kernel_rfl) (fun _ _ _ h => h) (Or.inl ⟨by rfl, ?_⟩) (by assumption) ?_
            rotate_left
            · (intro w hSw; (try dsimp only at hSw); first | (go_simp; done) | (go_simp; with_reducible rfl))
            try simp only [List.getElem_toArray, List.getElem_cons_succ, List.getElem_cons_zero, Act.put, List.setIfInBounds_toArray, List.set_cons_zero, List.set_cons_succ]
            refine wpAnyH_take (i := 3) (v := ?_) rfl (by kernel_rfl) (by kernel_rfl) (by kernel_rfl) (fun _ _ _ h => h) (Or.inl ⟨by rfl, ?_⟩) (by assumption) ?_
            rotate_left
            · (intro w hSw; (try dsimp only at hSw); first | (go_simp; done) | (go_simp; with_reducible rfl))
            try simp only [List.getElem_toArray, List.getElem_cons_succ, List.getElem_cons_zero, Act.put, List.setIfInBounds_toArray, List.set_cons_zero, List.set_cons_succ]
            refine wpAnyH_ready (rs := [4]) (by kernel_rfl) (by simp) ?_
            refine AllReadyH.cons rfl (fun K hK => ?_) AllReadyH.nil
            go_simp
            refine hK.out _ _ ?_ (fun hHeld => ?_)
            · exact ⟨⟨(by show World.cell? (World.setCell (World.setCell wv ⟨w.heap.size + 1, 0, none⟩ _) ⟨w.heap.size + 1, 1, none⟩ _) _ = _; rw [World.cell?_setCell_other _ _ _ _ (by simp only [ne_eq, Addr.mk.injEq, not_and]; intro h; omega), World.cell?_setCell_other _ _ _ _ (by simp only [ne_eq, Addr.mk.injEq, not_and]; intro h; omega)]; exact v0), (by show World.cell? (World.setCell (World.setCell wv ⟨w.heap.size + 1, 0, none⟩ _) ⟨w.heap.size + 1, 1, none⟩ _) _ = _; rw [World.cell?_setCell_other _ _ _ _ (by simp only [ne_eq, Addr.mk.injEq, not_and]; intro h; omega), World.cell?_setCell_other _ _ _ _ (by simp only [ne_eq, Addr.mk.injEq, not_and]; intro h; omega)]; exact v1)⟩, (by show World.cell? (World.setCell (World.setCell wv ⟨w.heap.size + 1, 0, none⟩ _) ⟨w.heap.size + 1, 1, none⟩ _) _ = _; rw [World.cell?_setCell_other _ _ _ _ (by simp only [ne_eq, Addr.mk.injEq, not_and]; intro h; omega), World.cell?_setCell_other _ _ _ _ (by simp only [ne_eq, Addr.mk.injEq, not_and]; intro h; omega)]; exact im)⟩
            clear hK K
            try simp only [List.getElem_toArray, List.getElem_cons_succ, List.getElem_cons_zero, Act.put, List.setIfInBounds_toArray, List.set_cons_zero, List.set_cons_succ]
            refine wpAnyH_ready (rs := [5]) (by kernel_rfl) (by simp) ?_
            refine AllReadyH.cons rfl (fun K hK => ?_) AllReadyH.nil
            go_simp
            refine hK.out _ _ ?_ (fun hHeld => ?_)
            · exact ⟨⟨(by show World.cell? (World.setCell (World.setCell wv ⟨w.heap.size + 1, 0, none⟩ _) ⟨w.heap.size + 1, 1, none⟩ _) _ = _; rw [World.cell?_setCell_other _ _ _ _ (by simp only [ne_eq, Addr.mk.injEq, not_and]; intro h; omega), World.cell?_setCell_other _ _ _ _ (by simp only [ne_eq, Addr.mk.injEq, not_and]; intro h; omega)]; exact v0), (by show World.cell? (World.setCell (World.setCell wv ⟨w.heap.size + 1, 0, none⟩ _) ⟨w.heap.size + 1, 1, none⟩ _) _ = _; rw [World.cell?_setCell_other _ _ _ _ (by simp only [ne_eq, Addr.mk.injEq, not_and]; intro h; omega), World.cell?_setCell_other _ _ _ _ (by simp only [ne_eq, Addr.mk.injEq, not_and]; intro h; omega)]; exact v1)⟩, (by show World.cell? (World.setCell (World.setCell wv ⟨w.heap.size + 1, 0, none⟩ _) ⟨w.heap.size + 1, 1, none⟩ _) _ = _; rw [World.cell?_setCell_other _ _ _ _ (by simp only [ne_eq, Addr.mk.injEq, not_and]; intro h; omega), World.cell?_setCell_other _ _ _ _ (by simp only [ne_eq, Addr.mk.injEq, not_and]; intro h; omega)]; exact im)⟩
            clear hK K
            try simp only [List.getElem_toArray, List.getElem_cons_succ, List.getElem_cons_zero, Act.put, List.setIfInBounds_toArray, List.set_cons_zero, List.set_cons_succ]
            refine wpAnyH_done (by kernel_rfl) ?_ _
            go_wp2
            refine bodyPost_ret (v := .tuple #[.agg #[.int .i64 q.1.m, .slice (some ⟨g', 0, none⟩) q.1.n c6], .int .i64 q.2]) (by simp [results, Tryd.results7, go_sem, s0, s1]) rfl ?_
            rw [unhide HN']
            have mv : Mov (w.heap.size + 1) wv ((wv.setCell ⟨w.heap.size + 1, 0, none⟩ (.int .i64 q.1.m)).setCell ⟨w.heap.size + 1, 1, none⟩ (.slice (some ⟨g', 0, none⟩) q.1.n c6)) := mov2c _ _ _ _
            have hgn : w.heap.size + 1 ≠ g' := by omega
            exact ⟨⟨some ⟨g', 0, none⟩, c6, rfl, (unhide HG6).1.mov2 (by omega) mv, Or.inr ⟨g', rfl, by omega, (unhide HG6).2.2.mov mv (by omega)⟩, (unhide HCAP), fun _ => ⟨g', rfl⟩⟩, (by first | exact BL.trans (mv.below (by omega) BL.size) | exact BL.drew.trans (Mov.below mv (by omega) BL.size))⟩
        · have ns : ∀ k, k < wz.heap.size → ¬ S4 bb gb B g k := fun k h1 h2 => by have := (unhide HB).low k h2; omega
          have sl := World.block_lt_of_cell? _ _ s0
          have zl := World.block_lt_of_cell? _ _ f
          replace f0 := (o5.frozen (p := ⟨w.heap.size + 1, 0, none⟩) sl (ns _ (by simp only; omega))).trans f0
          replace f1 := (o5.frozen (p := ⟨w.heap.size + 1, 1, none⟩) sl (ns _ (by simp only; omega))).trans f1
          replace s0 := o5.cell s0 (ns _ (by simp only; omega))
          replace s1 := o5.cell s1 (ns _ (by simp only; omega))
          replace f := o5.cell f (ns _ (by simp only; omega))
          replace BL := BL.trans (o5.lower (base := w.heap.size) (fun k hk => by have := (unhide HB).low k hk; omega) BL.size)
          clear sl zl
          clear o5 ns
          have HN := hide (cmpBR_no (m := m) (n := n) (G := G) (op := op) (L := L) (M := M) (fun h => hE (by have := h.2.2.2.1; rw [unhide HL, unhide HM] at this; exact ⟨this, by have := h.2.2.2.2; omega⟩)))
          go_wp2_with fail
          refine (toldB_any bb v _ _ _ _ q1).mono ?_
          rintro e wl ⟨rfl, bl⟩
          replace f0 := (bl.frozen (p := ⟨w.heap.size + 1, 0, none⟩) (World.block_lt_of_cell? _ _ s0)).trans f0
          replace f1 := (bl.frozen (p := ⟨w.heap.size + 1, 1, none⟩) (World.block_lt_of_cell? _ _ s1)).trans f1
          replace s0 := cell_later bl s0
          replace s1 := cell_later bl s1
          replace BL := BL.trans (bl.mono BL.size)
          clear bl
          have sl := World.block_lt_of_cell? _ _ s0
          have sl1 := World.block_lt_of_cell? _ _ s1
          simp only at sl sl1
          go_wp2
          refine bodyPost_ret (v := .tuple #[.agg #[.int .i64 0, .slice none 0 0], .int .i64 0]) (by simp [results, Tryd.results7, go_sem, s0, s1, sl]) rfl ?_
          rw [unhide HN]
          exact ⟨nil_IC _ _, (BL.trans ((mov2c wl (w.heap.size + 1) _ _).below (by omega) BL.size)).alloc (Nat.le_trans BL.size (mov2c wl (w.heap.size + 1) _ _).size) _⟩
      · have ns : ∀ k, k < wz.heap.size → ¬ S4 bb gb B g k := fun k h1 h2 => by have := (unhide HB).low k h2; omega
        have sl := World.block_lt_of_cell? _ _ s0
        have zl := World.block_lt_of_cell? _ _ f
        replace f0 := (o4.frozen (p := ⟨w.heap.size + 1, 0, none⟩) sl (ns _ (by simp only; omega))).trans f0
        replace f1 := (o4.frozen (p := ⟨w.heap.size + 1, 1, none⟩) sl (ns _ (by simp only; omega))).trans f1
        replace s0 := o4.cell s0 (ns _ (by simp only; omega))
        replace s1 := o4.cell s1 (ns _ (by simp only; omega))
        replace f := o4.cell f (ns _ (by simp only; omega))
        replace BL := BL.trans (o4.lower (base := w.heap.size) (fun k hk => by have := (unhide HB).low k hk; omega) BL.size)
        clear sl zl
        clear o4 ns
        have HN := hide (cmpBR_no (m := m) (n := n) (G := G) (op := op) (L := L) (M := M) (fun h => hRb h.2.2.1))
        go_wp2_with fail
        refine (cmpB_any bb v aF op _ _ _ _ _ _ _ q1 f (by omega) (by omega)).mono ?_
        rintro e w4 ⟨rfl, rfl⟩
        go_wp2_with fail
        refine (toldB_any bb v _ _ _ _ q1).mono ?_
        rintro e wl ⟨rfl, bl⟩
        replace f0 := (bl.frozen (p := ⟨w.heap.size + 1, 0, none⟩) (World.block_lt_of_cell? _ _ s0)).trans f0
        replace f1 := (bl.frozen (p := ⟨w.heap.size + 1, 1, none⟩) (World.block_lt_of_cell? _ _ s1)).trans f1
        replace s0 := cell_later bl s0
        replace s1 := cell_later bl s1
        replace BL := BL.trans (bl.mono BL.size)
        clear bl
        have sl := World.block_lt_of_cell? _ _ s0
        have sl1 := World.block_lt_of_cell? _ _ s1
        simp only at sl sl1
        go_wp2
        refine bodyPost_ret (v := .tuple #[.agg #[.int .i64 0, .slice none 0 0], .int .i64 0]) (by simp [results, Tryd.results7, go_sem, s0, s1, sl]) rfl ?_
        rw [unhide HN]
        exact ⟨nil_IC _ _, (BL.trans ((mov2c wl (w.heap.size + 1) _ _).below (by omega) BL.size)).alloc (Nat.le_trans BL.size (mov2c wl (w.heap.size + 1) _ _).size) _⟩
    · have ns : ∀ k, k < wz.heap.size → ¬ S4 bb gb B g k := fun k h1 h2 => by have := (unhide HB).low k h2; omega
      have sl := World.block_lt_of_cell? _ _ s0
      have zl := World.block_lt_of_cell? _ _ f
      replace f0 := (o3.frozen (p := ⟨w.heap.size + 1, 0, none⟩) sl (ns _ (by simp only; omega))).trans f0
      replace f1 := (o3.frozen (p := ⟨w.heap.size + 1, 1, none⟩) sl (ns _ (by simp only; omega))).trans f1
      replace s0 := o3.cell s0 (ns _ (by simp only; omega))
      replace s1 := o3.cell s1 (ns _ (by simp only; omega))
      replace f := o3.cell f (ns _ (by simp only; omega))
      replace BL := BL.trans (o3.lower (base := w.heap.size) (fun k hk => by have := (unhide HB).low k hk; omega) BL.size)
      clear sl zl
      clear o3 ns
      have HN := hide (cmpBR_no (m := m) (n := n) (G := G) (op := op) (L := L) (M := M) (fun h => hRa h.2.1))
      go_wp2_with fail
      refine (takeB_any bb v aF _ nm _ _ q1 f hm).mono ?_
      rintro e w3 ⟨rfl, rfl⟩
      go_wp2_with fail
      refine (cmpB_any bb v aF op _ _ _ _ _ _ _ q1 f (by omega) (by omega)).mono ?_
      rintro e w3 ⟨rfl, rfl⟩
      go_wp2_with fail
      refine (toldB_any bb v _ _ _ _ q1).mono ?_
      rintro e wl ⟨rfl, bl⟩
      replace f0 := (bl.frozen (p := ⟨w.heap.size + 1, 0, none⟩) (World.block_lt_of_cell? _ _ s0)).trans f0
      replace f1 := (bl.frozen (p := ⟨w.heap.size + 1, 1, none⟩) (World.block_lt_of_cell? _ _ s1)).trans f1
      replace s0 := cell_later bl s0
      replace s1 := cell_later bl s1
      replace BL := BL.trans (bl.mono BL.size)
      clear bl
      have sl := World.block_lt_of_cell? _ _ s0
      have sl1 := World.block_lt_of_cell? _ _ s1
      simp only at sl sl1
      go_wp2
      refine bodyPost_ret (v := .tuple #[.agg #[.int .i64 0, .slice none 0 0], .int .i64 0]) (by simp [results, Tryd.results7, go_sem, s0, s1, sl]) rfl ?_
      rw [unhide HN]
      exact ⟨nil_IC _ _, (BL.trans ((mov2c wl (w.heap.size + 1) _ _).below (by omega) BL.size)).alloc (Nat.le_trans BL.size (mov2c wl (w.heap.size + 1) _ _).size) _⟩
  · replace f0 := (b1.frozen (p := ⟨w.heap.size + 1, 0, none⟩) (World.block_lt_of_cell? _ _ s0)).trans f0
    replace f1 := (b1.frozen (p := ⟨w.heap.size + 1, 1, none⟩) (World.block_lt_of_cell? _ _ s1)).trans f1
    replace s0 := cell_later b1 s0
    replace s1 := cell_later b1 s1
    replace f := cell_later b1 f
    replace BL := BL.trans (b1.mono BL.size)
    clear b1 p0 p1
    have HN := hide (cmpBR_no (m := m) (n := n) (G := G) (op := op) (L := L) (M := M) (fun h => by have := h.1; rw [hP] at this; cases this))
    go_wp2_with fail
    refine (takeB_any bb v aF _ nl _ _ q1 f hl).mono ?_
    rintro e w1 ⟨rfl, rfl⟩
    go_wp2_with fail
    refine (takeB_any bb v aF _ nm _ _ q1 f hm).mono ?_
    rintro e w1 ⟨rfl, rfl⟩
    go_wp2_with fail
    refine (cmpB_any bb v aF op _ _ _ _ _ _ _ q1 f (by omega) (by omega)).mono ?_
    rintro e w1 ⟨rfl, rfl⟩
    go_wp2_with fail
    refine (toldB_any bb v _ _ _ _ q1).mono ?_
    rintro e wl ⟨rfl, bl⟩
    replace f0 := (bl.frozen (p := ⟨w.heap.size + 1, 0, none⟩) (World.block_lt_of_cell? _ _ s0)).trans f0
    replace f1 := (bl.frozen (p := ⟨w.heap.size + 1, 1, none⟩) (World.block_lt_of_cell? _ _ s1)).trans f1
    replace s0 := cell_later bl s0
    replace s1 := cell_later bl s1
    replace BL := BL.trans (bl.mono BL.size)
    clear bl
    have sl := World.block_lt_of_cell? _ _ s0
    have sl1 := World.block_lt_of_cell? _ _ s1
    simp only at sl sl1
    go_wp2
    refine bodyPost_ret (v := .tuple #[.agg #[.int .i64 0, .slice none 0 0], .int .i64 0]) (by simp [results, Tryd.results7, go_sem, s0, s1, sl]) rfl ?_
    rw [unhide HN]
    exact ⟨nil_IC _ _, (BL.trans ((mov2c wl (w.heap.size + 1) _ _).below (by omega) BL.size)).alloc (Nat.le_trans BL.size (mov2c wl (w.heap.size + 1) _ _).size) _⟩
end Go.Proofs.YtmpiiilkaadhfaaDoor
