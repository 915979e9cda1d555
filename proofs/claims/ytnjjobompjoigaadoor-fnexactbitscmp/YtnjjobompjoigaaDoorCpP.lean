/- Two numbers held against each other, of the builder. -/
import Derived.Test.YtnjjobompjoigaaDoorBkY
import Derived.Test.YtnjjobompjoigaaDoorCpM
namespace Go.Proofs.YtnjjobompjoigaaDoor
open Go.ChangeShapes Go.WideShapes Go.ChangeAt Go.RowKit Go.Joins
set_option linter.unusedVariables false
set_option maxRecDepth 100000
set_option linter.unusedSimpArgs false

/-- The builder behind some steps. -/
structure BI (w wr : World) (base bb gb B g g' : Nat) (aF aR : Addr) (s : KS) : Prop where
  b : Bld wr base bb gb B g' aR s
  s : Sent wr base aF aR
  gs : GS g g' w.heap.size
  o : OutS (S4 bb gb B g) w wr
theorem BI.drew {w wr : World} {base bb gb B g g' : Nat} {aF aR : Addr} {s : KS} (h : BI w wr base bb gb B g g' aF aR s) : BI w wr.drew base bb gb B g g' aF aR s := ⟨h.b.later (Below.refl _ _).drew, h.s.drew, h.gs, h.o.drew⟩
theorem BI.call {w wr w1 : World} {base bb gb B g g' : Nat} {aF aR : Addr} {s t : KS} (h : BI w wr base bb gb B g g' aF aR s) (k : BStep wr w1 base bb gb B g' aR t) : ∃ g'', BI w w1 base bb gb B g g'' aF aR t := by
  obtain ⟨g2, k1, k2, k3⟩ := k
  exact ⟨g2, k1, h.s.out h.b k3, gates_step h.gs k2 h.o.size, outS_step h.gs h.o k3⟩
set_option maxRecDepth 100000 in
set_option maxHeartbeats 1500000 in
theorem bsame_any (base bb gb B g : Nat) (aF aR : Addr) (s : KS) (rx ox cx ry oy cy n : Nat) (L M : List Int) (w : World) (hb : Bld w base bb gb B g aR s) (hs : Sent w base aF aR) (hbase : base ≤ w.heap.size) (hk : KOk s) (hL : L.length = n) (hM : M.length = n) (hn : n ≤ 100) (dx : Ints w rx ox n (at0 L)) (dy : Ints w ry oy n (at0 M)) (nx : ¬ S4 bb gb B g rx ∧ rx < w.heap.size) (ny : ¬ S4 bb gb B g ry ∧ ry < w.heap.size) (mL : MkL s L) (mM : MkL s M) :
    Calls Tryd.prog 34 #[.pointer (some ⟨bb, 0, none⟩), .slice (some ⟨rx, ox, none⟩) n cx, .slice (some ⟨ry, oy, none⟩) n cy] w fun e w' => e = .returned (.int .i64 (foldK (sameR 0) s (1) L M n).2) ∧ ∃ g', BI w w' base bb gb B g g' aF aR (foldK (sameR 0) s (1) L M n).1 := by
  have HGD : Hid (∀ i, i ≤ n → Good s (foldK (sameR 0) s (1) L M i)) := fun i hi => foldK_good (sameR_good (by omega)) hk (Mk.one hk) mL mM i (by omega) (by omega)
  have H0 : Hid (BI w w base bb gb B g g aF aR s) := ⟨hb, hs, Or.inl rfl, OutS.refl _ _⟩
  have HX := hide dx
  have HY := hide dy
  have HNX := hide nx
  have HNY := hide ny
  have HmL := hide mL
  have HmM := hide mM
  have HeL := hide hL
  have HeM := hide hM
  clear hb hs hk hL hM dx dy nx ny mL mM
  go_enter Tryd.func34, Tryd.ntmps34
  go_wp2
  go_loopw [11, 7] (fun i k wr => ∃ j : Nat, j ≤ n ∧ i = .int .i64 j ∧ k = .int .i64 (foldK (sameR 0) s (1) L M j).2 ∧ ∃ g', BI w wr base bb gb B g g' aF aR (foldK (sameR 0) s (1) L M j).1) (fun i _ _ => n - (intOf i).toNat)
  case atStart => exact ⟨0, by omega, rfl, rfl, g, unhide H0⟩
  case round =>
    obtain ⟨j, hj, rfl, rfl, g', hI⟩ := hrel
    have HR := hide hI
    have HGj := unhide HGD j hj
    clear hI
    by_cases hlt : j < n
    · have mx := ((unhide HmL) j (by rw [unhide HeL]; exact hlt)).le HGj.2.2
      have my := ((unhide HmM) j (by rw [unhide HeM]; exact hlt)).le HGj.2.2
      have HN : Hid (foldK (sameR 0) s (1) L M (j + 1) = sameR 0 (foldK (sameR 0) s (1) L M j).1 (foldK (sameR 0) s (1) L M j).2 (at0 L j) (at0 M j)) := rfl
      have gS := HGj.1
      have mC := HGj.2.1
      clear HGj
      obtain ⟨x, hx⟩ : ∃ x, x = at0 L j := ⟨_, rfl⟩
      obtain ⟨y, hy⟩ : ∃ y, y = at0 M j := ⟨_, rfl⟩
      rw [← hx] at mx HN
      rw [← hy] at my HN
      replace HX : Hid (∀ i, i < n → i = j → w.cell? ⟨rx, ox + i, none⟩ = some (.int .i64 x)) := fun i hi e => by have h := unhide HX i hi; rw [e] at h ⊢; rw [hx]; exact h
      replace HY : Hid (∀ i, i < n → i = j → w.cell? ⟨ry, oy + i, none⟩ = some (.int .i64 y)) := fun i hi e => by have h := unhide HY i hi; rw [e] at h ⊢; rw [hy]; exact h
      clear hx hy
      generalize (foldK (sameR 0) s (1) L M j).1 = S at *
      generalize (foldK (sameR 0) s (1) L M j).2 = C at *
      have Clo := mC.1
      have Chi := mC.2.1
      obtain ⟨u1, hu1⟩ : ∃ u, u = xorK 0 S x y := ⟨_, rfl⟩
      have k1 : Good S u1 := by rw [hu1]; exact xorK_good (by omega) gS mx my
      obtain ⟨u2, hu2⟩ : ∃ u, u = andK 0 u1.1 C (-u1.2) := ⟨_, rfl⟩
      have k2 : Good u1.1 u2 := by rw [hu2]; exact andK_good (by omega) k1.1 (mC.le k1.2.2) k1.2.1.neg
      have HN2 : Hid (foldK (sameR 0) s (1) L M (j + 1) = u2) := by rw [unhide HN, hu2, hu1]; rfl
      have HU1 := hide hu1
      have HU2 := hide hu2
      have ub1 := k1.2.1.1
      have uc1 := k1.2.1.2.1
      have HWN : Hid (IntKind.i64.wrap (-u1.2) = -u1.2) := by show _ = _; rw [IntKind.wrap_i64]; omega
      clear hu1 hu2 HN
      have HC1 : Hid (∀ q w', BI w w' base bb gb B g q aF aR S → Calls Tryd.prog 48 #[.pointer (some ⟨bb, 0, none⟩), .int .i64 x, .int .i64 y] w' fun e w'' => e = .returned (.int .i64 u1.2) ∧ BStep w' w'' base bb gb B q aR u1.1) := fun q w' hw' => by have h := bxor_any base bb gb B q aF aR S x y w' hw'.b hw'.s (Nat.le_trans hbase hw'.o.size) gS mx my; rw [← unhide HU1] at h; exact h
      have HC2 : Hid (∀ q w', BI w w' base bb gb B g q aF aR u1.1 → Calls Tryd.prog 47 #[.pointer (some ⟨bb, 0, none⟩), .int .i64 C, .int .i64 (-u1.2)] w' fun e w'' => e = .returned (.int .i64 u2.2) ∧ BStep w' w'' base bb gb B q aR u2.1) := fun q w' hw' => by have h := band_any base bb gb B q aF aR u1.1 C (-u1.2) w' hw'.b hw'.s (Nat.le_trans hbase hw'.o.size) k1.1 (mC.le k1.2.2) k1.2.1.neg; rw [← unhide HU2] at h; exact h
      have dL := (unhide HR).o.cell (unhide HX j hlt rfl) (unhide HNX).1
      have dM := (unhide HR).o.cell (unhide HY j hlt rfl) (unhide HNY).1
      go_wp2
      refine wp_region_held_drew (S := fun w' => w'.cell? ⟨rx, ox + j, none⟩ = some (.int .i64 x) ∧ w'.cell? ⟨ry, oy + j, none⟩ = some (.int .i64 y)) (by kernel_rfl) ?_ (fun hHeld => ?_)
      · exact ⟨dL, dM⟩
      refine wpAnyH_take (i := 0) (v := ?_) rfl (by kernel_rfl) (by kernel_rfl) (by kernel_rfl) (fun _ _ _ h => h) (Or.inl ⟨by rfl, ?_⟩) (by assumption) ?_
      rotate_left
      · (intro w hSw; (try dsimp only at hSw); first | (go_simp; done) | (go_simp; with_reducible rfl))
      try simp only [List.getElem_toArray, List.getElem_cons_succ, List.getElem_cons_zero, Act.put, List.setIfInBounds_toArray, List.set_cons_zero, List.set_cons_succ]
      refine wpAnyH_take (i := 1) (v := ?_) rfl (by kernel_rfl) (by kernel_rfl) (by kernel_rfl) (fun _ _ _ h => h) (Or.inl ⟨by rfl, ?_⟩) (by assumption) ?_
      rotate_left
      · (intro w hSw; (try dsimp only at hSw); first | (go_simp; done) | (go_simp; with_reducible rfl))
      try simp only [List.getElem_toArray, List.getElem_cons_succ, List.getElem_cons_zero, Act.put, List.setIfInBounds_toArray, List.set_cons_zero, List.set_cons_succ]
      refine wpAnyH_take (i := 2) (v := ?_) rfl (by kernel_rfl) (by kernel_rfl) (by kernel_rfl) (fun _ _ _ h => h) (Or.inl ⟨by rfl, ?_⟩) (by assumption) ?_
      rotate_left
      · (intro w hSw; (try dsimp only at hSw); first | (go_simp; done) | (go_simp; with_reducible rfl))
      try simp only [List.getElem_toArray, List.getElem_cons_succ, List.getElem_cons_zero, Act.put, List.setIfInBounds_toArray, List.set_cons_zero, List.set_cons_succ]
      refine wpAnyH_take (i := 3) (v := ?_) rfl (by kernel_rfl) (by kernel_rfl) (by kernel_rfl) (fun _ _ _ h => h) (Or.inl ⟨by rfl, ?_⟩) (by assumption) ?_
      rotate_left
      · (intro w hSw; (try dsimp only at hSw); first | (go_simp; done) | (go_simp; with_reducible rfl))
      try simp only [List.getElem_toArray, List.getElem_cons_succ, List.getElem_cons_zero, Act.put, List.setIfInBounds_toArray, List.set_cons_zero, List.set_cons_succ]
      refine wpAnyH_take (i := 4) (v := ?_) rfl (by kernel_rfl) (by kernel_rfl) (by kernel_rfl) (fun _ _ _ h => h) (Or.inl ⟨by rfl, ?_⟩) (by assumption) ?_
      rotate_left
      · (intro w hSw; (try dsimp only at hSw); first | (go_simp; done) | (go_simp; with_reducible rfl))
      try simp only [List.getElem_toArray, List.getElem_cons_succ, List.getElem_cons_zero, Act.put, List.setIfInBounds_toArray, List.set_cons_zero, List.set_cons_succ]
      refine wpAnyH_take (i := 5) (v := ?_) rfl (by kernel_rfl) (by kernel_rfl) (by kernel_rfl) (fun _ _ _ h => h) (Or.inl ⟨by rfl, ?_⟩) (by assumption) ?_
      rotate_left
      · (intro w hSw; (try dsimp only at hSw); first | (go_simp; done) | (go_simp; with_reducible rfl))
      try simp only [List.getElem_toArray, List.getElem_cons_succ, List.getElem_cons_zero, Act.put, List.setIfInBounds_toArray, List.set_cons_zero, List.set_cons_succ]
      refine wpAnyH_take (i := 6) (v := ?_) rfl (by kernel_rfl) (by kernel_rfl) (by kernel_rfl) (fun _ _ _ h => h) (Or.inl ⟨by rfl, ?_⟩) (by assumption) ?_
      rotate_left
      · (intro w hSw; (try dsimp only at hSw); first | (go_simp; done) | (go_simp; with_reducible rfl))
      try simp only [List.getElem_toArray, List.getElem_cons_succ, List.getElem_cons_zero, Act.put, List.setIfInBounds_toArray, List.set_cons_zero, List.set_cons_succ]
      refine wpAnyH_take (i := 7) (v := ?_) rfl (by kernel_rfl) (by kernel_rfl) (by kernel_rfl) (fun _ _ _ h => h) (Or.inl ⟨by rfl, ?_⟩) (by assumption) ?_
      rotate_left
      · (intro w hSw; (try dsimp only at hSw); first | (go_simp; done) | (go_simp; with_reducible rfl))
      try simp only [List.getElem_toArray, List.getElem_cons_succ, List.getElem_cons_zero, Act.put, List.setIfInBounds_toArray, List.set_cons_zero, List.set_cons_succ]
      refine wpAnyH_take (i := 8) (v := ?_) rfl (by kernel_rfl) (by kernel_rfl) (by kernel_rfl) (fun _ _ _ h => h) (Or.inl ⟨by rfl, ?_⟩) (by assumption) ?_
      rotate_left
      · (intro w hSw; (try dsimp only at hSw); first | (go_simp; done) | (go_simp; with_reducible rfl))
      try simp only [List.getElem_toArray, List.getElem_cons_succ, List.getElem_cons_zero, Act.put, List.setIfInBounds_toArray, List.set_cons_zero, List.set_cons_succ]
      refine wpAnyH_take (i := 9) (v := ?_) rfl (by kernel_rfl) (by kernel_rfl) (by kernel_rfl) (fun _ _ _ h => h) (Or.inl ⟨by rfl, ?_⟩) (by assumption) ?_
      rotate_left
      · (intro w hSw; (try dsimp only at hSw); first | (go_simp; done) | (go_simp; with_reducible rfl))
      try simp only [List.getElem_toArray, List.getElem_cons_succ, List.getElem_cons_zero, Act.put, List.setIfInBounds_toArray, List.set_cons_zero, List.set_cons_succ]
      refine wpAnyH_take (i := 10) (v := ?_) rfl (by kernel_rfl) (by kernel_rfl) (by kernel_rfl) (fun _ _ _ h => h) (Or.inl ⟨by rfl, ?_⟩) (by assumption) ?_
      rotate_left
      · (intro w hSw; (try dsimp only at hSw); first | (go_simp; done) | (go_simp; with_reducible rfl))
      try simp only [List.getElem_toArray, List.getElem_cons_succ, List.getElem_cons_zero, Act.put, List.setIfInBounds_toArray, List.set_cons_zero, List.set_cons_succ]
      refine wpAnyH_ready (rs := [11]) (by kernel_rfl) (by simp) ?_
      refine AllReadyH.cons rfl (fun K hK => ?_) AllReadyH.nil
      go_simp
      refine (unhide HC1 _ _ (by first | exact unhide HR | exact (unhide HR).drew | exact (unhide HR).drew.drew)).mono ?_
      rintro e w1 ⟨rfl, st⟩
      obtain ⟨g1, hr2⟩ := BI.call (by first | exact unhide HR | exact (unhide HR).drew | exact (unhide HR).drew.drew) st
      clear st
      have dL := hr2.o.cell (unhide HX j hlt rfl) (unhide HNX).1
      have dM := hr2.o.cell (unhide HY j hlt rfl) (unhide HNY).1
      have HR := hide hr2
      clear hr2
      go_wp2_with fail
      refine hK.out _ _ ?_ (fun hHeld => ?_)
      · exact ⟨dL, dM⟩
      clear hK K
      try simp only [List.getElem_toArray, List.getElem_cons_succ, List.getElem_cons_zero, Act.put, List.setIfInBounds_toArray, List.set_cons_zero, List.set_cons_succ]
      refine wpAnyH_take (i := 12) (v := ?_) rfl (by kernel_rfl) (by kernel_rfl) (by kernel_rfl) (fun _ _ _ h => h) (Or.inl ⟨by rfl, ?_⟩) (by assumption) ?_
      rotate_left
      · (intro w hSw; (try dsimp only at hSw); first | (go_simp; done) | (go_simp; with_reducible rfl))
      try simp only [List.getElem_toArray, List.getElem_cons_succ, List.getElem_cons_zero, Act.put, List.setIfInBounds_toArray, List.set_cons_zero, List.set_cons_succ]
      refine wpAnyH_ready (rs := [13]) (by kernel_rfl) (by simp) ?_
      refine AllReadyH.cons rfl (fun K hK => ?_) AllReadyH.nil
      go_simp
      try rw [unhide HWN]
      refine (unhide HC2 _ _ (by first | exact unhide HR | exact (unhide HR).drew | exact (unhide HR).drew.drew)).mono ?_
      rintro e w2 ⟨rfl, st⟩
      obtain ⟨g2, hr2⟩ := BI.call (by first | exact unhide HR | exact (unhide HR).drew | exact (unhide HR).drew.drew) st
      clear st
      have dL := hr2.o.cell (unhide HX j hlt rfl) (unhide HNX).1
      have dM := hr2.o.cell (unhide HY j hlt rfl) (unhide HNY).1
      have HR := hide hr2
      clear hr2
      go_wp2_with fail
      refine hK.out _ _ ?_ (fun hHeld => ?_)
      · exact ⟨dL, dM⟩
      clear hK K
      try simp only [List.getElem_toArray, List.getElem_cons_succ, List.getElem_cons_zero, Act.put, List.setIfInBounds_toArray, List.set_cons_zero, List.set_cons_succ]
      refine wpAnyH_ready (rs := [14]) (by kernel_rfl) (by simp) ?_
      refine AllReadyH.cons rfl (fun K hK => ?_) AllReadyH.nil
      go_simp
      refine hK.out _ _ ?_ (fun hHeld => ?_)
      · exact ⟨dL, dM⟩
      clear hK K
      try simp only [List.getElem_toArray, List.getElem_cons_succ, List.getElem_cons_zero, Act.put, List.setIfInBounds_toArray, List.set_cons_zero, List.set_cons_succ]
      refine wpAnyH_done (by kernel_rfl) ?_ _
      clear dL dM
      go_wp2
      go_roundw
      case rel => exact ⟨j + 1, by omega, by go_num, by rw [unhide HN2], g2, by rw [unhide HN2]; first | exact unhide HR | exact (unhide HR).drew⟩
      case measure => simp [intOf]; omega
    · have ej : j = n := by omega
      subst ej
      go_wp2
      go_ret
      exact ⟨rfl, g', unhide HR⟩
set_option maxRecDepth 100000 in
set_option maxHeartbeats 1500000 in
theorem bless_any (base bb gb B g : Nat) (aF aR : Addr) (s : KS) (rx ox cx ry oy cy n : Nat) (L M : List Int) (w : World) (hb : Bld w base bb gb B g aR s) (hs : Sent w base aF aR) (hbase : base ≤ w.heap.size) (hk : KOk s) (hL : L.length = n) (hM : M.length = n) (hn : n ≤ 100) (dx : Ints w rx ox n (at0 L)) (dy : Ints w ry oy n (at0 M)) (nx : ¬ S4 bb gb B g rx ∧ rx < w.heap.size) (ny : ¬ S4 bb gb B g ry ∧ ry < w.heap.size) (mL : MkL s L) (mM : MkL s M) :
    Calls Tryd.prog 35 #[.pointer (some ⟨bb, 0, none⟩), .slice (some ⟨rx, ox, none⟩) n cx, .slice (some ⟨ry, oy, none⟩) n cy] w fun e w' => e = .returned (.int .i64 (foldK (lessR 0) s (-1) L M n).2) ∧ ∃ g', BI w w' base bb gb B g g' aF aR (foldK (lessR 0) s (-1) L M n).1 := by
  have HGD : Hid (∀ i, i ≤ n → Good s (foldK (lessR 0) s (-1) L M i)) := fun i hi => foldK_good (lessR_good (by omega)) hk (Mk.not hk) mL mM i (by omega) (by omega)
  have H0 : Hid (BI w w base bb gb B g g aF aR s) := ⟨hb, hs, Or.inl rfl, OutS.refl _ _⟩
  have HX := hide dx
  have HY := hide dy
  have HNX := hide nx
  have HNY := hide ny
  have HmL := hide mL
  have HmM := hide mM
  have HeL := hide hL
  have HeM := hide hM
  clear hb hs hk hL hM dx dy nx ny mL mM
  go_enter Tryd.func35, Tryd.ntmps35
  go_wp2
  go_loopw [11, 7] (fun i k wr => ∃ j : Nat, j ≤ n ∧ i = .int .i64 j ∧ k = .int .i64 (foldK (lessR 0) s (-1) L M j).2 ∧ ∃ g', BI w wr base bb gb B g g' aF aR (foldK (lessR 0) s (-1) L M j).1) (fun i _ _ => n - (intOf i).toNat)
  case atStart => exact ⟨0, by omega, rfl, rfl, g, unhide H0⟩
  case round =>
    obtain ⟨j, hj, rfl, rfl, g', hI⟩ := hrel
    have HR := hide hI
    have HGj := unhide HGD j hj
    clear hI
    by_cases hlt : j < n
    · have mx := ((unhide HmL) j (by rw [unhide HeL]; exact hlt)).le HGj.2.2
      have my := ((unhide HmM) j (by rw [unhide HeM]; exact hlt)).le HGj.2.2
      have HN : Hid (foldK (lessR 0) s (-1) L M (j + 1) = lessR 0 (foldK (lessR 0) s (-1) L M j).1 (foldK (lessR 0) s (-1) L M j).2 (at0 L j) (at0 M j)) := rfl
      have gS := HGj.1
      have mC := HGj.2.1
      clear HGj
      obtain ⟨x, hx⟩ : ∃ x, x = at0 L j := ⟨_, rfl⟩
      obtain ⟨y, hy⟩ : ∃ y, y = at0 M j := ⟨_, rfl⟩
      rw [← hx] at mx HN
      rw [← hy] at my HN
      replace HX : Hid (∀ i, i < n → i = j → w.cell? ⟨rx, ox + i, none⟩ = some (.int .i64 x)) := fun i hi e => by have h := unhide HX i hi; rw [e] at h ⊢; rw [hx]; exact h
      replace HY : Hid (∀ i, i < n → i = j → w.cell? ⟨ry, oy + i, none⟩ = some (.int .i64 y)) := fun i hi e => by have h := unhide HY i hi; rw [e] at h ⊢; rw [hy]; exact h
      clear hx hy
      generalize (foldK (lessR 0) s (-1) L M j).1 = S at *
      generalize (foldK (lessR 0) s (-1) L M j).2 = C at *
      have Clo := mC.1
      have Chi := mC.2.1
      obtain ⟨u1, hu1⟩ : ∃ u, u = xorK 0 S x y := ⟨_, rfl⟩
      have k1 : Good S u1 := by rw [hu1]; exact xorK_good (by omega) gS mx my
      obtain ⟨u2, hu2⟩ : ∃ u, u = oneK 0 u1.1 u1.2 y C := ⟨_, rfl⟩
      have k2 : Good u1.1 u2 := by rw [hu2]; exact oneK_good (by omega) k1.1 k1.2.1 (my.le k1.2.2) (mC.le k1.2.2)
      have HN2 : Hid (foldK (lessR 0) s (-1) L M (j + 1) = u2) := by rw [unhide HN, hu2, hu1]; rfl
      have HU1 := hide hu1
      have HU2 := hide hu2
      have ub1 := k1.2.1.1
      have uc1 := k1.2.1.2.1
      have HWN : Hid (IntKind.i64.wrap (-u1.2) = -u1.2) := by show _ = _; rw [IntKind.wrap_i64]; omega
      clear hu1 hu2 HN
      have HC1 : Hid (∀ q w', BI w w' base bb gb B g q aF aR S → Calls Tryd.prog 48 #[.pointer (some ⟨bb, 0, none⟩), .int .i64 x, .int .i64 y] w' fun e w'' => e = .returned (.int .i64 u1.2) ∧ BStep w' w'' base bb gb B q aR u1.1) := fun q w' hw' => by have h := bxor_any base bb gb B q aF aR S x y w' hw'.b hw'.s (Nat.le_trans hbase hw'.o.size) gS mx my; rw [← unhide HU1] at h; exact h
      have HC2 : Hid (∀ q w', BI w w' base bb gb B g q aF aR u1.1 → Calls Tryd.prog 49 #[.pointer (some ⟨bb, 0, none⟩), .int .i64 u1.2, .int .i64 y, .int .i64 C] w' fun e w'' => e = .returned (.int .i64 u2.2) ∧ BStep w' w'' base bb gb B q aR u2.1) := fun q w' hw' => by have h := bone_any base bb gb B q aF aR u1.1 u1.2 y C w' hw'.b hw'.s (Nat.le_trans hbase hw'.o.size) k1.1 k1.2.1 (my.le k1.2.2) (mC.le k1.2.2); rw [← unhide HU2] at h; exact h
      have dL := (unhide HR).o.cell (unhide HX j hlt rfl) (unhide HNX).1
      have dM := (unhide HR).o.cell (unhide HY j hlt rfl) (unhide HNY).1
      go_wp2
      refine wp_region_held_drew (S := fun w' => w'.cell? ⟨rx, ox + j, none⟩ = some (.int .i64 x) ∧ w'.cell? ⟨ry, oy + j, none⟩ = some (.int .i64 y)) (by kernel_rfl) ?_ (fun hHeld => ?_)
      · exact ⟨dL, dM⟩
      refine wpAnyH_take (i := 0) (v := ?_) rfl (by kernel_rfl) (by kernel_rfl) (by kernel_rfl) (fun _ _ _ h => h) (Or.inl ⟨by rfl, ?_⟩) (by assumption) ?_
      rotate_left
      · (intro w hSw; (try dsimp only at hSw); first | (go_simp; done) | (go_simp; with_reducible rfl))
      try simp only [List.getElem_toArray, List.getElem_cons_succ, List.getElem_cons_zero, Act.put, List.setIfInBounds_toArray, List.set_cons_zero, List.set_cons_succ]
      refine wpAnyH_take (i := 1) (v := ?_) rfl (by kernel_rfl) (by kernel_rfl) (by kernel_rfl) (fun _ _ _ h => h) (Or.inl ⟨by rfl, ?_⟩) (by assumption) ?_
      rotate_left
      · (intro w hSw; (try dsimp only at hSw); first | (go_simp; done) | (go_simp; with_reducible rfl))
      try simp only [List.getElem_toArray, List.getElem_cons_succ, List.getElem_cons_zero, Act.put, List.setIfInBounds_toArray, List.set_cons_zero, List.set_cons_succ]
      refine wpAnyH_take (i := 2) (v := ?_) rfl (by kernel_rfl) (by kernel_rfl) (by kernel_rfl) (fun _ _ _ h => h) (Or.inl ⟨by rfl, ?_⟩) (by assumption) ?_
      rotate_left
      · (intro w hSw; (try dsimp only at hSw); first | (go_simp; done) | (go_simp; with_reducible rfl))
      try simp only [List.getElem_toArray, List.getElem_cons_succ, List.getElem_cons_zero, Act.put, List.setIfInBounds_toArray, List.set_cons_zero, List.set_cons_succ]
      refine wpAnyH_take (i := 3) (v := ?_) rfl (by kernel_rfl) (by kernel_rfl) (by kernel_rfl) (fun _ _ _ h => h) (Or.inl ⟨by rfl, ?_⟩) (by assumption) ?_
      rotate_left
      · (intro w hSw; (try dsimp only at hSw); first | (go_simp; done) | (go_simp; with_reducible rfl))
      try simp only [List.getElem_toArray, List.getElem_cons_succ, List.getElem_cons_zero, Act.put, List.setIfInBounds_toArray, List.set_cons_zero, List.set_cons_succ]
      refine wpAnyH_take (i := 4) (v := ?_) rfl (by kernel_rfl) (by kernel_rfl) (by kernel_rfl) (fun _ _ _ h => h) (Or.inl ⟨by rfl, ?_⟩) (by assumption) ?_
      rotate_left
      · (intro w hSw; (try dsimp only at hSw); first | (go_simp; done) | (go_simp; with_reducible rfl))
      try simp only [List.getElem_toArray, List.getElem_cons_succ, List.getElem_cons_zero, Act.put, List.setIfInBounds_toArray, List.set_cons_zero, List.set_cons_succ]
      refine wpAnyH_take (i := 5) (v := ?_) rfl (by kernel_rfl) (by kernel_rfl) (by kernel_rfl) (fun _ _ _ h => h) (Or.inl ⟨by rfl, ?_⟩) (by assumption) ?_
      rotate_left
      · (intro w hSw; (try dsimp only at hSw); first | (go_simp; done) | (go_simp; with_reducible rfl))
      try simp only [List.getElem_toArray, List.getElem_cons_succ, List.getElem_cons_zero, Act.put, List.setIfInBounds_toArray, List.set_cons_zero, List.set_cons_succ]
      refine wpAnyH_take (i := 6) (v := ?_) rfl (by kernel_rfl) (by kernel_rfl) (by kernel_rfl) (fun _ _ _ h => h) (Or.inl ⟨by rfl, ?_⟩) (by assumption) ?_
      rotate_left
      · (intro w hSw; (try dsimp only at hSw); first | (go_simp; done) | (go_simp; with_reducible rfl))
      try simp only [List.getElem_toArray, List.getElem_cons_succ, List.getElem_cons_zero, Act.put, List.setIfInBounds_toArray, List.set_cons_zero, List.set_cons_succ]
      refine wpAnyH_take (i := 7) (v := ?_) rfl (by kernel_rfl) (by kernel_rfl) (by kernel_rfl) (fun _ _ _ h => h) (Or.inl ⟨by rfl, ?_⟩) (by assumption) ?_
      rotate_left
      · (intro w hSw; (try dsimp only at hSw); first | (go_simp; done) | (go_simp; with_reducible rfl))
      try simp only [List.getElem_toArray, List.getElem_cons_succ, List.getElem_cons_zero, Act.put, List.setIfInBounds_toArray, List.set_cons_zero, List.set_cons_succ]
      refine wpAnyH_take (i := 8) (v := ?_) rfl (by kernel_rfl) (by kernel_rfl) (by kernel_rfl) (fun _ _ _ h => h) (Or.inl ⟨by rfl, ?_⟩) (by assumption) ?_
      rotate_left
      · (intro w hSw; (try dsimp only at hSw); first | (go_simp; done) | (go_simp; with_reducible rfl))
      try simp only [List.getElem_toArray, List.getElem_cons_succ, List.getElem_cons_zero, Act.put, List.setIfInBounds_toArray, List.set_cons_zero, List.set_cons_succ]
      refine wpAnyH_take (i := 9) (v := ?_) rfl (by kernel_rfl) (by kernel_rfl) (by kernel_rfl) (fun _ _ _ h => h) (Or.inl ⟨by rfl, ?_⟩) (by assumption) ?_
      rotate_left
      · (intro w hSw; (try dsimp only at hSw); first | (go_simp; done) | (go_simp; with_reducible rfl))
      try simp only [List.getElem_toArray, List.getElem_cons_succ, List.getElem_cons_zero, Act.put, List.setIfInBounds_toArray, List.set_cons_zero, List.set_cons_succ]
      refine wpAnyH_take (i := 11) (v := ?_) rfl (by kernel_rfl) (by kernel_rfl) (by kernel_rfl) (fun _ _ _ h => h) (Or.inl ⟨by rfl, ?_⟩) (by assumption) ?_
      rotate_left
      · (intro w hSw; (try dsimp only at hSw); first | (go_simp; done) | (go_simp; with_reducible rfl))
      try simp only [List.getElem_toArray, List.getElem_cons_succ, List.getElem_cons_zero, Act.put, List.setIfInBounds_toArray, List.set_cons_zero, List.set_cons_succ]
      refine wpAnyH_take (i := 12) (v := ?_) rfl (by kernel_rfl) (by kernel_rfl) (by kernel_rfl) (fun _ _ _ h => h) (Or.inl ⟨by rfl, ?_⟩) (by assumption) ?_
      rotate_left
      · (intro w hSw; (try dsimp only at hSw); first | (go_simp; done) | (go_simp; with_reducible rfl))
      try simp only [List.getElem_toArray, List.getElem_cons_succ, List.getElem_cons_zero, Act.put, List.setIfInBounds_toArray, List.set_cons_zero, List.set_cons_succ]
      refine wpAnyH_take (i := 13) (v := ?_) rfl (by kernel_rfl) (by kernel_rfl) (by kernel_rfl) (fun _ _ _ h => h) (Or.inl ⟨by rfl, ?_⟩) (by assumption) ?_
      rotate_left
      · (intro w hSw; (try dsimp only at hSw); first | (go_simp; done) | (go_simp; with_reducible rfl))
      try simp only [List.getElem_toArray, List.getElem_cons_succ, List.getElem_cons_zero, Act.put, List.setIfInBounds_toArray, List.set_cons_zero, List.set_cons_succ]
      refine wpAnyH_take (i := 14) (v := ?_) rfl (by kernel_rfl) (by kernel_rfl) (by kernel_rfl) (fun _ _ _ h => h) (Or.inl ⟨by rfl, ?_⟩) (by assumption) ?_
      rotate_left
      · (intro w hSw; (try dsimp only at hSw); first | (go_simp; done) | (go_simp; with_reducible rfl))
      try simp only [List.getElem_toArray, List.getElem_cons_succ, List.getElem_cons_zero, Act.put, List.setIfInBounds_toArray, List.set_cons_zero, List.set_cons_succ]
      refine wpAnyH_take (i := 15) (v := ?_) rfl (by kernel_rfl) (by kernel_rfl) (by kernel_rfl) (fun _ _ _ h => h) (Or.inl ⟨by rfl, ?_⟩) (by assumption) ?_
      rotate_left
      · (intro w hSw; (try dsimp only at hSw); first | (go_simp; done) | (go_simp; with_reducible rfl))
      try simp only [List.getElem_toArray, List.getElem_cons_succ, List.getElem_cons_zero, Act.put, List.setIfInBounds_toArray, List.set_cons_zero, List.set_cons_succ]
      refine wpAnyH_ready (rs := [10]) (by kernel_rfl) (by simp) ?_
      refine AllReadyH.cons rfl (fun K hK => ?_) AllReadyH.nil
      go_simp
      refine (unhide HC1 _ _ (by first | exact unhide HR | exact (unhide HR).drew | exact (unhide HR).drew.drew)).mono ?_
      rintro e w1 ⟨rfl, st⟩
      obtain ⟨g1, hr2⟩ := BI.call (by first | exact unhide HR | exact (unhide HR).drew | exact (unhide HR).drew.drew) st
      clear st
      have dL := hr2.o.cell (unhide HX j hlt rfl) (unhide HNX).1
      have dM := hr2.o.cell (unhide HY j hlt rfl) (unhide HNY).1
      have HR := hide hr2
      clear hr2
      go_wp2_with fail
      refine hK.out _ _ ?_ (fun hHeld => ?_)
      · exact ⟨dL, dM⟩
      clear hK K
      try simp only [List.getElem_toArray, List.getElem_cons_succ, List.getElem_cons_zero, Act.put, List.setIfInBounds_toArray, List.set_cons_zero, List.set_cons_succ]
      refine wpAnyH_ready (rs := [16]) (by kernel_rfl) (by simp) ?_
      refine AllReadyH.cons rfl (fun K hK => ?_) AllReadyH.nil
      go_simp
      refine (unhide HC2 _ _ (by first | exact unhide HR | exact (unhide HR).drew | exact (unhide HR).drew.drew)).mono ?_
      rintro e w2 ⟨rfl, st⟩
      obtain ⟨g2, hr2⟩ := BI.call (by first | exact unhide HR | exact (unhide HR).drew | exact (unhide HR).drew.drew) st
      clear st
      have dL := hr2.o.cell (unhide HX j hlt rfl) (unhide HNX).1
      have dM := hr2.o.cell (unhide HY j hlt rfl) (unhide HNY).1
      have HR := hide hr2
      clear hr2
      go_wp2_with fail
      refine hK.out _ _ ?_ (fun hHeld => ?_)
      · exact ⟨dL, dM⟩
      clear hK K
      try simp only [List.getElem_toArray, List.getElem_cons_succ, List.getElem_cons_zero, Act.put, List.setIfInBounds_toArray, List.set_cons_zero, List.set_cons_succ]
      refine wpAnyH_ready (rs := [17]) (by kernel_rfl) (by simp) ?_
      refine AllReadyH.cons rfl (fun K hK => ?_) AllReadyH.nil
      go_simp
      refine hK.out _ _ ?_ (fun hHeld => ?_)
      · exact ⟨dL, dM⟩
      clear hK K
      try simp only [List.getElem_toArray, List.getElem_cons_succ, List.getElem_cons_zero, Act.put, List.setIfInBounds_toArray, List.set_cons_zero, List.set_cons_succ]
      refine wpAnyH_done (by kernel_rfl) ?_ _
      clear dL dM
      go_wp2
      go_roundw
      case rel => exact ⟨j + 1, by omega, by go_num, by rw [unhide HN2], g2, by rw [unhide HN2]; first | exact unhide HR | exact (unhide HR).drew⟩
      case measure => simp [intOf]; omega
    · have ej : j = n := by omega
      subst ej
      go_wp2
      go_ret
      exact ⟨rfl, g', unhide HR⟩
end Go.Proofs.YtnjjobompjoigaaDoor
