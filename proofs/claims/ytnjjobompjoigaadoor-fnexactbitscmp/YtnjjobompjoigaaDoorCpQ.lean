/- What is asked of two numbers, of the builder. -/
import Derived.Test.YtnjjobompjoigaaDoorCpP
import Derived.Test.YtnjjobompjoigaaDoorCpA
import Derived.Lib.SliceRun
namespace Go.Proofs.YtnjjobompjoigaaDoor
open Go.ChangeShapes Go.WideShapes Go.ChangeAt Go.RowKit Go.Joins
set_option linter.unusedVariables false
set_option maxRecDepth 100000
set_option linter.unusedSimpArgs false

theorem lsMark : LsT 53 72 := ⟨Tryd.underlying53, infoMark⟩
set_option maxRecDepth 100000 in
set_option maxHeartbeats 1000000 in
theorem clone_any (b off n c : Nat) (L : List Int) (w : World) (hL : L.length = n) (hn : n ≤ 1000) (hd : Ints w b off n (at0 L)) :
    Calls Tryd.prog 50 #[.slice (some ⟨b, off, none⟩) n c] w fun e w' => ∃ X cap, e = .returned (.slice (some ⟨X, 0, none⟩) n cap) ∧ w'.ownsRow w.heap.size 72 1 (.slice (some ⟨X, 0, none⟩) n cap) n (icells L) ∧ Below w.heap.size w w' := by
  have b4 : Below w.heap.size w (w.alloc (.cells #[] 72)) := (Below.refl _ _).alloc (Nat.le_refl _) _
  obtain ⟨g, cp, w4, hrun, ow4, gr4, hg4⟩ := ints_where lsMark 53 (w.alloc (.cells #[] 72)) w.heap.size w.heap.size 0 0 [] L b off n c (own_new w _ 1) hL (hd.later b4) (by omega) (by simp)
  simp only [Nat.zero_add, List.nil_append] at hrun ow4
  have HR := hide hrun
  have B4 : Below w.heap.size w w4 := b4.trans ((mov_of_grown gr4).below (Nat.le_refl _) (by simp))
  have HO := hide ow4
  clear hrun ow4 gr4 hg4 b4 hd
  have q22 : ∀ (w : World) (a : Option Addr) (n c n' c' : Nat), (binOp .eql 53 (.slice a n c) (.slice none n' c')).run Tryd.prog w = .ok (.bool a.isNone) w := fun w a n c n' c' => Lib.run_eql_slice_nil w _ 72 a n c n' c' Tryd.underlying53
  go_enter Tryd.func50, Tryd.ntmps50
  go_wp2_with (first | (at_builtin; refine wpList_append_run _ rfl (.tmp 5) (.tmp 6) 53 rfl _ _ _ _ rfl rfl (unhide HR) ?_))
  go_wp2
  go_ret
  exact ⟨g, cp, rfl, unhide HO, B4⟩
set_option maxRecDepth 100000 in
set_option maxHeartbeats 4000000 in
theorem bunder_any (base bb gb B g : Nat) (aF aR : Addr) (s : KS) (rx cx ry cy n : Nat) (L M : List Int) (w : World) (hb : Bld w base bb gb B g aR s) (hs : Sent w base aF aR) (hbase : base ≤ w.heap.size) (hk : KOk s) (hL : L.length = n) (hM : M.length = n) (h1 : 1 ≤ n) (hn : n ≤ 100) (hcx : n ≤ cx) (hcy : n ≤ cy) (dx : Ints w rx 0 n (at0 L)) (dy : Ints w ry 0 n (at0 M)) (nx : ¬ S4 bb gb B g rx ∧ rx < w.heap.size) (ny : ¬ S4 bb gb B g ry ∧ ry < w.heap.size) (mL : MkL s L) (mM : MkL s M) :
    Calls Tryd.prog 36 #[.pointer (some ⟨bb, 0, none⟩), .slice (some ⟨rx, 0, none⟩) n cx, .slice (some ⟨ry, 0, none⟩) n cy] w fun e w' => e = .returned (.int .i64 (foldK (lessR 0) s (-1) (topL L M) (topL M L) n).2) ∧ ∃ g', BI w w' base bb gb B g g' aF aR (foldK (lessR 0) s (-1) (topL L M) (topL M L) n).1 := by
  obtain ⟨q, rfl⟩ : ∃ q, n = q + 1 := ⟨n - 1, by omega⟩
  have hki : ((q + 1 : Nat) : Int) - 1 = (q : Int) := by omega
  have hwi : IntKind.i64.wrap (q : Int) = (q : Int) := by rw [IntKind.wrap_i64]; omega
  have hqa : q ≤ cx := by omega
  have hqb : q ≤ cy := by omega
  have hqi : (q : Int) < (q : Int) + 1 := by omega
  have H0 : Hid (BI w w base bb gb B g g aF aR s) := ⟨hb, hs, Or.inl rfl, OutS.refl _ _⟩
  have tkL : (List.take q L).length = q := by rw [List.length_take]; omega
  have tkM : (List.take q M).length = q := by rw [List.length_take]; omega
  have HTL : Hid (List.take q L ++ [at0 M q] = topL L M) := by show _ = _; unfold topL; rw [hL]; rfl
  have HTM : Hid (List.take q M ++ [at0 L q] = topL M L) := by show _ = _; unfold topL; rw [hM]; rfl
  have HGL : Hid ((topL L M).length = q + 1 ∧ (topL M L).length = q + 1 ∧ MkL s (topL L M) ∧ MkL s (topL M L)) := ⟨(topL_len (by omega)).trans hL, (topL_len (by omega)).trans hM, mL.top mM (by omega) (by omega), mM.top mL (by omega) (by omega)⟩
  have HWL : Hid (∀ wr, Below w.heap.size w wr → Ints wr rx 0 q (at0 (List.take q L))) := fun wr hb i hi => by rw [at0_take hi (by rw [hL]; omega)]; exact (hb.cell (p := ⟨rx, 0 + i, none⟩) nx.2).trans (dx i (by omega))
  have HWM : Hid (∀ wr, Below w.heap.size w wr → Ints wr ry 0 q (at0 (List.take q M))) := fun wr hb i hi => by rw [at0_take hi (by rw [hM]; omega)]; exact (hb.cell (p := ⟨ry, 0 + i, none⟩) ny.2).trans (dy i (by omega))
  have qx := dx q (by omega)
  have qy := dy q (by omega)
  rw [Nat.zero_add] at qx qy
  have lx := nx.2
  have ly := ny.2
  have HK := hide hk
  obtain ⟨u, hu⟩ : ∃ u, u = foldK (lessR 0) s (-1) (topL L M) (topL M L) (q + 1) := ⟨_, rfl⟩
  rw [← hu]
  have HLS : Hid (∀ (wr : World) (Ga Ca Gb Cb : Nat), Below w.heap.size w wr → wr.ownsRow w.heap.size 72 1 (.slice (some ⟨Ga, 0, none⟩) (q + 1) Ca) (q + 1) (icells (topL L M)) → wr.ownsRow w.heap.size 72 1 (.slice (some ⟨Gb, 0, none⟩) (q + 1) Cb) (q + 1) (icells (topL M L)) →
      Calls Tryd.prog 35 #[.pointer (some ⟨bb, 0, none⟩), .slice (some ⟨Ga, 0, none⟩) (q + 1) Ca, .slice (some ⟨Gb, 0, none⟩) (q + 1) Cb] wr fun e w' => e = .returned (.int .i64 u.2) ∧ ∃ g', BI w w' base bb gb B g g' aF aR u.1) := by
    intro wr Ga Ca Gb Cb hB oa ob
    have la := own_base oa
    have lb := own_base ob
    have lga := hb.lg
    have lbb := hb.lt
    have ns : ∀ k, w.heap.size ≤ k → ¬ S4 bb gb B g k := fun k h1 h2 => by rcases h2 with e | e | e | e <;> omega
    rw [hu]
    have hc := bless_any base bb gb B g aF aR s Ga 0 Ca Gb 0 Cb (q + 1) (topL L M) (topL M L) wr (hb.later hB) (hs.below hB hbase) (Nat.le_trans hbase hB.size) hk (unhide HGL).1 (unhide HGL).2.1 hn (own_ints oa (unhide HGL).1) (own_ints ob (unhide HGL).2.1) ⟨ns _ la, (own_cap oa).2⟩ ⟨ns _ lb, (own_cap ob).2⟩ (unhide HGL).2.2.1 (unhide HGL).2.2.2
    refine hc.mono ?_
    rintro e w' ⟨rfl, g', h⟩
    exact ⟨rfl, g', h.b, h.s, (by rcases h.gs with e | e; exact Or.inl e; exact Or.inr (Nat.le_trans hB.size e)), (OutS.of (S := S4 bb gb B g) hB).trans h.o (fun _ _ h => h)⟩
  obtain ⟨xa, hxa⟩ : ∃ y, y = at0 M q := ⟨_, rfl⟩
  obtain ⟨xb, hxb⟩ : ∃ y, y = at0 L q := ⟨_, rfl⟩
  rw [← hxa] at HTL qy
  rw [← hxb] at HTM qx
  have HQX : Hid (w.cell? ⟨rx, q, none⟩ = some (.int .i64 xb) ∧ ¬ S4 bb gb B g rx) := ⟨qx, nx.1⟩
  have HQY : Hid (w.cell? ⟨ry, q, none⟩ = some (.int .i64 xa) ∧ ¬ S4 bb gb B g ry) := ⟨qy, ny.1⟩
  clear hxa hxb hb hs hk dx dy nx ny mL mM hu
  go_enter Tryd.func36, Tryd.ntmps36
  go_wp2
  refine wp_region_held_drew (S := fun w' => w'.cell? ⟨rx, q, none⟩ = some (.int .i64 xb) ∧ w'.cell? ⟨ry, q, none⟩ = some (.int .i64 xa)) (by kernel_rfl) ?_ (fun hHeld => ?_)
  · exact ⟨qx, qy⟩
  obtain ⟨wd, hwd⟩ : ∃ x, x = w.drew := ⟨_, rfl⟩
  have HB : Hid (Below w.heap.size w wd) := by show _; rw [hwd]; exact (Below.refl _ _).drew
  replace qx : wd.cell? ⟨rx, q, none⟩ = some (.int .i64 xb) := by rw [hwd]; exact qx
  replace qy : wd.cell? ⟨ry, q, none⟩ = some (.int .i64 xa) := by rw [hwd]; exact qy
  rw [← hwd]
  (try rw [← hwd] at hHeld)
  clear hwd
  refine wpAnyH_take (i := 0) (v := ?_) rfl (by kernel_rfl) (by kernel_rfl) (by kernel_rfl) (fun _ _ _ h => h) (Or.inl ⟨by rfl, ?_⟩) (by assumption) ?_
  rotate_left
  · (intro w hSw; (try dsimp only at hSw); first | (go_simp; done) | (go_simp; with_reducible rfl))
  try simp only [List.getElem_toArray, List.getElem_cons_succ, List.getElem_cons_zero, Act.put, List.setIfInBounds_toArray, List.set_cons_zero, List.set_cons_succ]
  refine wpAnyH_take (i := 1) (v := ?_) rfl (by kernel_rfl) (by kernel_rfl) (by kernel_rfl) (fun _ _ _ h => h) (Or.inl ⟨by rfl, ?_⟩) (by assumption) ?_
  rotate_left
  · (intro w hSw; (try dsimp only at hSw); first | (go_simp; done) | (go_simp; with_reducible rfl))
  try simp only [List.getElem_toArray, List.getElem_cons_succ, List.getElem_cons_zero, Act.put, List.setIfInBounds_toArray, List.set_cons_zero, List.set_cons_succ]
  refine wpAnyH_take (i := 2) (v := ?_) rfl (by kernel_rfl) (by kernel_rfl) (by kernel_rfl) (fun _ _ _ h => h) (Or.inl ⟨by rfl, ?_⟩) (by assumption) ?_
  rotate_left
  · (intro w hSw; (try dsimp only at hSw); first | (go_simp; done) | (go_simp; with_reducible rfl))
  try simp only [List.getElem_toArray, List.getElem_cons_succ, List.getElem_cons_zero, Act.put, List.setIfInBounds_toArray, List.set_cons_zero, List.set_cons_succ]
  refine wpAnyH_take (i := 3) (v := ?_) rfl (by kernel_rfl) (by kernel_rfl) (by kernel_rfl) (fun _ _ _ h => h) (Or.inl ⟨by rfl, ?_⟩) (by assumption) ?_
  rotate_left
  · (intro w hSw; (try dsimp only at hSw); first | (go_simp; done) | (go_simp; with_reducible rfl))
  try simp only [List.getElem_toArray, List.getElem_cons_succ, List.getElem_cons_zero, Act.put, List.setIfInBounds_toArray, List.set_cons_zero, List.set_cons_succ]
  refine wpAnyH_take (i := 5) (v := ?_) rfl (by kernel_rfl) (by kernel_rfl) (by kernel_rfl) (fun _ _ _ h => h) (Or.inl ⟨by rfl, ?_⟩) (by assumption) ?_
  rotate_left
  · (intro w hSw; (try dsimp only at hSw); first | (go_simp; done) | (go_simp; with_reducible rfl))
  try simp only [List.getElem_toArray, List.getElem_cons_succ, List.getElem_cons_zero, Act.put, List.setIfInBounds_toArray, List.set_cons_zero, List.set_cons_succ]
  refine wpAnyH_take (i := 6) (v := ?_) rfl (by kernel_rfl) (by kernel_rfl) (by kernel_rfl) (fun _ _ _ h => h) (Or.inl ⟨by rfl, ?_⟩) (by assumption) ?_
  rotate_left
  · (intro w hSw; (try dsimp only at hSw); first | (go_simp; done) | (go_simp; with_reducible rfl))
  try simp only [List.getElem_toArray, List.getElem_cons_succ, List.getElem_cons_zero, Act.put, List.setIfInBounds_toArray, List.set_cons_zero, List.set_cons_succ]
  refine wpAnyH_take (i := 7) (v := ?_) rfl (by kernel_rfl) (by kernel_rfl) (by kernel_rfl) (fun _ _ _ h => h) (Or.inl ⟨by rfl, ?_⟩) (by assumption) ?_
  rotate_left
  · (intro w hSw; (try dsimp only at hSw); first | (go_simp; done) | (go_simp; with_reducible rfl))
  try simp only [List.getElem_toArray, List.getElem_cons_succ, List.getElem_cons_zero, Act.put, List.setIfInBounds_toArray, List.set_cons_zero, List.set_cons_succ]
  refine wpAnyH_take (i := 8) (v := ?_) rfl (by kernel_rfl) (by kernel_rfl) (by kernel_rfl) (fun _ _ _ h => h) (Or.inl ⟨by rfl, ?_⟩) (by assumption) ?_
  rotate_left
  · (intro w hSw; (try dsimp only at hSw); first | (go_simp; done) | (go_simp; with_reducible rfl))
  try simp only [List.getElem_toArray, List.getElem_cons_succ, List.getElem_cons_zero, Act.put, List.setIfInBounds_toArray, List.set_cons_zero, List.set_cons_succ]
  refine wpAnyH_take (i := 11) (v := ?_) rfl (by kernel_rfl) (by kernel_rfl) (by kernel_rfl) (fun _ _ _ h => h) (Or.inl ⟨by rfl, ?_⟩) (by assumption) ?_
  rotate_left
  · (intro w hSw; (try dsimp only at hSw); first | (go_simp; done) | (go_simp; with_reducible rfl))
  try simp only [List.getElem_toArray, List.getElem_cons_succ, List.getElem_cons_zero, Act.put, List.setIfInBounds_toArray, List.set_cons_zero, List.set_cons_succ]
  refine wpAnyH_take (i := 12) (v := ?_) rfl (by kernel_rfl) (by kernel_rfl) (by kernel_rfl) (fun _ _ _ h => h) (Or.inl ⟨by rfl, ?_⟩) (by assumption) ?_
  rotate_left
  · (intro w hSw; (try dsimp only at hSw); first | (go_simp; done) | (go_simp; with_reducible rfl))
  try simp only [List.getElem_toArray, List.getElem_cons_succ, List.getElem_cons_zero, Act.put, List.setIfInBounds_toArray, List.set_cons_zero, List.set_cons_succ]
  refine wpAnyH_take (i := 13) (v := ?_) rfl (by kernel_rfl) (by kernel_rfl) (by kernel_rfl) (fun _ _ _ h => h) (Or.inl ⟨by rfl, ?_⟩) (by assumption) ?_
  rotate_left
  · (intro w hSw; (try dsimp only at hSw); first | (go_simp; done) | (go_simp; with_reducible rfl))
  try simp only [List.getElem_toArray, List.getElem_cons_succ, List.getElem_cons_zero, Act.put, List.setIfInBounds_toArray, List.set_cons_zero, List.set_cons_succ]
  refine wpAnyH_take (i := 15) (v := ?_) rfl (by kernel_rfl) (by kernel_rfl) (by kernel_rfl) (fun _ _ _ h => h) (Or.inl ⟨by rfl, ?_⟩) (by assumption) ?_
  rotate_left
  · (intro w hSw; (try dsimp only at hSw); first | (go_simp; done) | (go_simp; with_reducible rfl))
  try simp only [List.getElem_toArray, List.getElem_cons_succ, List.getElem_cons_zero, Act.put, List.setIfInBounds_toArray, List.set_cons_zero, List.set_cons_succ]
  refine wpAnyH_take (i := 16) (v := ?_) rfl (by kernel_rfl) (by kernel_rfl) (by kernel_rfl) (fun _ _ _ h => h) (Or.inl ⟨by rfl, ?_⟩) (by assumption) ?_
  rotate_left
  · (intro w hSw; (try dsimp only at hSw); first | (go_simp; done) | (go_simp; with_reducible rfl))
  try simp only [List.getElem_toArray, List.getElem_cons_succ, List.getElem_cons_zero, Act.put, List.setIfInBounds_toArray, List.set_cons_zero, List.set_cons_succ]
  refine wpAnyH_take (i := 17) (v := ?_) rfl (by kernel_rfl) (by kernel_rfl) (by kernel_rfl) (fun _ _ _ h => h) (Or.inl ⟨by rfl, ?_⟩) (by assumption) ?_
  rotate_left
  · (intro w hSw; (try dsimp only at hSw); first | (go_simp; done) | (go_simp; with_reducible rfl))
  try simp only [List.getElem_toArray, List.getElem_cons_succ, List.getElem_cons_zero, Act.put, List.setIfInBounds_toArray, List.set_cons_zero, List.set_cons_succ]
  refine wpAnyH_take (i := 18) (v := ?_) rfl (by kernel_rfl) (by kernel_rfl) (by kernel_rfl) (fun _ _ _ h => h) (Or.inl ⟨by rfl, ?_⟩) (by assumption) ?_
  rotate_left
  · (intro w hSw; (try dsimp only at hSw); first | (go_simp; done) | (go_simp; with_reducible rfl))
  try simp only [List.getElem_toArray, List.getElem_cons_succ, List.getElem_cons_zero, Act.put, List.setIfInBounds_toArray, List.set_cons_zero, List.set_cons_succ]
  refine wpAnyH_ready (rs := [4, 9, 19]) (by kernel_rfl) (by simp) ?_
  refine AllReadyH.cons rfl (fun K hK => ?_) (AllReadyH.cons rfl (fun K hK => ?_) (AllReadyH.cons rfl (fun K hK => ?_) AllReadyH.nil))
  · go_simp
    refine (clone_any rx 0 q cx (List.take q L) wd tkL (by omega) (unhide HWL _ (unhide HB))).mono ?_
    rintro e v4 ⟨ga, ca, rfl, o4, b4⟩
    have k4 := own_base o4
    have HOa := hide (own_mono o4 (unhide HB).size)
    have HB := hide ((unhide HB).trans (b4.mono (unhide HB).size))
    replace qx := cell_later b4 qx
    replace qy := cell_later b4 qy
    clear o4 b4 k4
    go_wp2_with fail
    refine hK.out _ _ ?_ (fun hHeld => ?_)
    · exact ⟨qx, qy⟩
    clear hK K
    try simp only [List.getElem_toArray, List.getElem_cons_succ, List.getElem_cons_zero, Act.put, List.setIfInBounds_toArray, List.set_cons_zero, List.set_cons_succ]
    refine wpAnyH_ready (rs := [9, 19]) (by kernel_rfl) (by simp) ?_
    refine AllReadyH.cons rfl (fun K hK => ?_) (AllReadyH.cons rfl (fun K hK => ?_) AllReadyH.nil)
    · go_simp
      obtain ⟨v9, hv9⟩ : ∃ x, x = v4.alloc (.cells #[.int .i64 xa] 72) := ⟨_, rfl⟩
      have b9 : Below v4.heap.size v4 v9 := by rw [hv9]; exact (Below.refl _ _).alloc (Nat.le_refl _) _
      have l9 : v4.heap.size < v9.heap.size := by rw [hv9]; simp
      have e9 : w.heap.size ≤ v4.heap.size := (unhide HB).size
      have lga := (own_cap (unhide HOa)).2
      have mga := own_base (unhide HOa)
      have HZa : Hid (Ints v9 v4.heap.size 0 1 (at0 [xa])) := fun i hi => by (obtain rfl : i = 0 := by omega); rw [hv9]; simp [go_sem, at0]
      have HOa := hide (World.ownsRow.kept (w' := v9) (unhide HOa) (grown_below b9) (by simp [Value.ownBlock]))
      have ngaZa : ga ≠ v4.heap.size := by omega
      have HB := hide ((unhide HB).trans (b9.mono (unhide HB).size))
      replace qx := cell_later b9 qx
      replace qy := cell_later b9 qy
      rw [← hv9]
      obtain ⟨Za, hZa⟩ : ∃ x, x = v4.heap.size := ⟨_, rfl⟩
      rw [← hZa] at HZa ngaZa ⊢
      have kZa : Za < v9.heap.size := by omega
      have jZa : w.heap.size ≤ Za := by omega
      clear hv9 b9 l9 e9 hZa lga mga
      refine hK.out _ _ ?_ (fun hHeld => ?_)
      · exact ⟨qx, qy⟩
      clear hK K
      try simp only [List.getElem_toArray, List.getElem_cons_succ, List.getElem_cons_zero, Act.put, List.setIfInBounds_toArray, List.set_cons_zero, List.set_cons_succ]
      refine wpAnyH_ready (rs := [10, 19]) (by kernel_rfl) (by simp) ?_
      refine AllReadyH.cons rfl (fun K hK => ?_) (AllReadyH.cons rfl (fun K hK => ?_) AllReadyH.nil)
      · have lga := (own_cap (unhide HOa)).2
        have mga := own_base (unhide HOa)
        apply step_ints (hT := lsMark) (L := List.take q L) (M := [xa]) (base := w.heap.size)
        case hgd => rfl
        case ho => rfl
        case hs => rfl
        case hown => exact unhide HOa
        case hbase => exact (unhide HB).size
        case hx => rfl
        case hM => rfl
        case hi => exact unhide HZa
        case hl => omega
        case' h => intro Ga Ca v10 o10 gr10 at10 lt10
        have HB := hide ((unhide HB).trans ((mov_of_grown gr10).below mga (unhide HB).size))
        replace qx := (mov_of_grown gr10).cell qx (by simp only; omega)
        replace qy := (mov_of_grown gr10).cell qy (by simp only; omega)
        have HRa : Hid (v10.ownsRow w.heap.size 72 1 (.slice (some ⟨Ga, 0, none⟩) (q + 1) Ca) (q + 1) (icells (topL L M))) := by have h := o10; rw [unhide HTL] at h; exact h
        clear o10 gr10 at10 lt10 HOa HZa kZa jZa lga mga
        refine hK.out _ _ ?_ (fun hHeld => ?_)
        · exact ⟨qx, qy⟩
        clear hK K
        try simp only [List.getElem_toArray, List.getElem_cons_succ, List.getElem_cons_zero, Act.put, List.setIfInBounds_toArray, List.set_cons_zero, List.set_cons_succ]
        refine wpAnyH_ready (rs := [14, 19]) (by kernel_rfl) (by simp) ?_
        refine AllReadyH.cons rfl (fun K hK => ?_) (AllReadyH.cons rfl (fun K hK => ?_) AllReadyH.nil)
        · go_simp
          refine (clone_any ry 0 q cy (List.take q M) v10 tkM (by omega) (unhide HWM _ (unhide HB))).mono ?_
          rintro e v14 ⟨gb, cb, rfl, o14, b14⟩
          have lGa := (own_cap (unhide HRa)).2
          have mGa := own_base (unhide HRa)
          have HRa := hide (World.ownsRow.kept (w' := v14) (unhide HRa) (grown_below b14) (by simp [Value.ownBlock]))
          have k14 := own_base o14
          have HOb := hide (own_mono o14 (unhide HB).size)
          have nGab : Ga ≠ gb := by omega
          have HB := hide ((unhide HB).trans (b14.mono (unhide HB).size))
          replace qx := cell_later b14 qx
          replace qy := cell_later b14 qy
          clear o14 b14 k14 lGa mGa
          go_wp2_with fail
          refine hK.out _ _ ?_ (fun hHeld => ?_)
          · exact ⟨qx, qy⟩
          clear hK K
          try simp only [List.getElem_toArray, List.getElem_cons_succ, List.getElem_cons_zero, Act.put, List.setIfInBounds_toArray, List.set_cons_zero, List.set_cons_succ]
          refine wpAnyH_ready (rs := [19]) (by kernel_rfl) (by simp) ?_
          refine AllReadyH.cons rfl (fun K hK => ?_) AllReadyH.nil
          go_simp
          obtain ⟨v19, hv19⟩ : ∃ x, x = v14.alloc (.cells #[.int .i64 xb] 72) := ⟨_, rfl⟩
          have b19 : Below v14.heap.size v14 v19 := by rw [hv19]; exact (Below.refl _ _).alloc (Nat.le_refl _) _
          have l19 : v14.heap.size < v19.heap.size := by rw [hv19]; simp
          have e19 : w.heap.size ≤ v14.heap.size := (unhide HB).size
          have lGa := (own_cap (unhide HRa)).2
          have lgb := (own_cap (unhide HOb)).2
          have mGa := own_base (unhide HRa)
          have mgb := own_base (unhide HOb)
          have HZb : Hid (Ints v19 v14.heap.size 0 1 (at0 [xb])) := fun i hi => by (obtain rfl : i = 0 := by omega); rw [hv19]; simp [go_sem, at0]
          have HRa := hide (World.ownsRow.kept (w' := v19) (unhide HRa) (grown_below b19) (by simp [Value.ownBlock]))
          have HOb := hide (World.ownsRow.kept (w' := v19) (unhide HOb) (grown_below b19) (by simp [Value.ownBlock]))
          have nGaZb : Ga ≠ v14.heap.size := by omega
          have ngbZb : gb ≠ v14.heap.size := by omega
          have HB := hide ((unhide HB).trans (b19.mono (unhide HB).size))
          replace qx := cell_later b19 qx
          replace qy := cell_later b19 qy
          rw [← hv19]
          obtain ⟨Zb, hZb⟩ : ∃ x, x = v14.heap.size := ⟨_, rfl⟩
          rw [← hZb] at HZb nGaZb ngbZb ⊢
          have kZb : Zb < v19.heap.size := by omega
          have jZb : w.heap.size ≤ Zb := by omega
          clear hv19 b19 l19 e19 hZb lGa mGa lgb mgb
          refine hK.out _ _ ?_ (fun hHeld => ?_)
          · exact ⟨qx, qy⟩
          clear hK K
          try simp only [List.getElem_toArray, List.getElem_cons_succ, List.getElem_cons_zero, Act.put, List.setIfInBounds_toArray, List.set_cons_zero, List.set_cons_succ]
          refine wpAnyH_ready (rs := [20]) (by kernel_rfl) (by simp) ?_
          refine AllReadyH.cons rfl (fun K hK => ?_) AllReadyH.nil
          have lGa := (own_cap (unhide HRa)).2
          have lgb := (own_cap (unhide HOb)).2
          have mGa := own_base (unhide HRa)
          have mgb := own_base (unhide HOb)
          apply step_ints (hT := lsMark) (L := List.take q M) (M := [xb]) (base := w.heap.size)
          case hgd => rfl
          case ho => rfl
          case hs => rfl
          case hown => exact unhide HOb
          case hbase => exact (unhide HB).size
          case hx => rfl
          case hM => rfl
          case hi => exact unhide HZb
          case hl => omega
          case' h => intro Gb Cb v20 o20 gr20 at20 lt20
          have HRa := hide (World.ownsRow.kept (w' := v20) (unhide HRa) gr20 (by simp [Value.ownBlock]; omega))
          have nGaGb : Ga ≠ Gb := by rcases at20 with e | e <;> omega
          have HB := hide ((unhide HB).trans ((mov_of_grown gr20).below mgb (unhide HB).size))
          replace qx := (mov_of_grown gr20).cell qx (by simp only; omega)
          replace qy := (mov_of_grown gr20).cell qy (by simp only; omega)
          have HRb : Hid (v20.ownsRow w.heap.size 72 1 (.slice (some ⟨Gb, 0, none⟩) (q + 1) Cb) (q + 1) (icells (topL M L))) := by have h := o20; rw [unhide HTM] at h; exact h
          clear o20 gr20 at20 lt20 HOb HZb kZb jZb lGa mGa lgb mgb
          refine hK.out _ _ ?_ (fun hHeld => ?_)
          · exact ⟨qx, qy⟩
          clear hK K
          try simp only [List.getElem_toArray, List.getElem_cons_succ, List.getElem_cons_zero, Act.put, List.setIfInBounds_toArray, List.set_cons_zero, List.set_cons_succ]
          refine wpAnyH_ready (rs := [21]) (by kernel_rfl) (by simp) ?_
          refine AllReadyH.cons rfl (fun K hK => ?_) AllReadyH.nil
          go_simp
          refine (unhide HLS _ Ga Ca Gb Cb (unhide HB) (unhide HRa) (unhide HRb)).mono ?_
          rintro e v21 ⟨rfl, g', hr⟩
          have HE := hide hr
          replace qx := hr.o.cell (unhide HQX).1 (unhide HQX).2
          replace qy := hr.o.cell (unhide HQY).1 (unhide HQY).2
          clear hr
          go_wp2_with fail
          refine hK.out _ _ ?_ (fun hHeld => ?_)
          · exact ⟨qx, qy⟩
          clear hK K
          try simp only [List.getElem_toArray, List.getElem_cons_succ, List.getElem_cons_zero, Act.put, List.setIfInBounds_toArray, List.set_cons_zero, List.set_cons_succ]
          refine wpAnyH_ready (rs := [22]) (by kernel_rfl) (by simp) ?_
          refine AllReadyH.cons rfl (fun K hK => ?_) AllReadyH.nil
          go_simp
          refine hK.out _ _ ?_ (fun hHeld => ?_)
          · exact ⟨qx, qy⟩
          clear hK K
          try simp only [List.getElem_toArray, List.getElem_cons_succ, List.getElem_cons_zero, Act.put, List.setIfInBounds_toArray, List.set_cons_zero, List.set_cons_succ]
          refine wpAnyH_done (by kernel_rfl) ?_ _
          go_wp2
          go_ret
          exact ⟨rfl, g', unhide HE⟩
        · go_simp
          obtain ⟨v19, hv19⟩ : ∃ x, x = v10.alloc (.cells #[.int .i64 xb] 72) := ⟨_, rfl⟩
          have b19 : Below v10.heap.size v10 v19 := by rw [hv19]; exact (Below.refl _ _).alloc (Nat.le_refl _) _
          have l19 : v10.heap.size < v19.heap.size := by rw [hv19]; simp
          have e19 : w.heap.size ≤ v10.heap.size := (unhide HB).size
          have lGa := (own_cap (unhide HRa)).2
          have mGa := own_base (unhide HRa)
          have HZb : Hid (Ints v19 v10.heap.size 0 1 (at0 [xb])) := fun i hi => by (obtain rfl : i = 0 := by omega); rw [hv19]; simp [go_sem, at0]
          have HRa := hide (World.ownsRow.kept (w' := v19) (unhide HRa) (grown_below b19) (by simp [Value.ownBlock]))
          have nGaZb : Ga ≠ v10.heap.size := by omega
          have HB := hide ((unhide HB).trans (b19.mono (unhide HB).size))
          replace qx := cell_later b19 qx
          replace qy := cell_later b19 qy
          rw [← hv19]
          obtain ⟨Zb, hZb⟩ : ∃ x, x = v10.heap.size := ⟨_, rfl⟩
          rw [← hZb] at HZb nGaZb ⊢
          have kZb : Zb < v19.heap.size := by omega
          have jZb : w.heap.size ≤ Zb := by omega
          clear hv19 b19 l19 e19 hZb lGa mGa
          refine hK.out _ _ ?_ (fun hHeld => ?_)
          · exact ⟨qx, qy⟩
          clear hK K
          try simp only [List.getElem_toArray, List.getElem_cons_succ, List.getElem_cons_zero, Act.put, List.setIfInBounds_toArray, List.set_cons_zero, List.set_cons_succ]
          refine wpAnyH_ready (rs := [14]) (by kernel_rfl) (by simp) ?_
          refine AllReadyH.cons rfl (fun K hK => ?_) AllReadyH.nil
          go_simp
          refine (clone_any ry 0 q cy (List.take q M) v19 tkM (by omega) (unhide HWM _ (unhide HB))).mono ?_
          rintro e v14 ⟨gb, cb, rfl, o14, b14⟩
          have lGa := (own_cap (unhide HRa)).2
          have mGa := own_base (unhide HRa)
          have HRa := hide (World.ownsRow.kept (w' := v14) (unhide HRa) (grown_below b14) (by simp [Value.ownBlock]))
          have HZb := hide ((unhide HZb).later b14)
          have k14 := own_base o14
          have HOb := hide (own_mono o14 (unhide HB).size)
          have nGab : Ga ≠ gb := by omega
          have nZbb : Zb ≠ gb := by omega
          have HB := hide ((unhide HB).trans (b14.mono (unhide HB).size))
          replace qx := cell_later b14 qx
          replace qy := cell_later b14 qy
          replace kZb : Zb < v14.heap.size := Nat.lt_of_lt_of_le kZb b14.size
          clear o14 b14 k14 lGa mGa
          go_wp2_with fail
          refine hK.out _ _ ?_ (fun hHeld => ?_)
          · exact ⟨qx, qy⟩
          clear hK K
          try simp only [List.getElem_toArray, List.getElem_cons_succ, List.getElem_cons_zero, Act.put, List.setIfInBounds_toArray, List.set_cons_zero, List.set_cons_succ]
          refine wpAnyH_ready (rs := [20]) (by kernel_rfl) (by simp) ?_
          refine AllReadyH.cons rfl (fun K hK => ?_) AllReadyH.nil
          have lGa := (own_cap (unhide HRa)).2
          have lgb := (own_cap (unhide HOb)).2
          have mGa := own_base (unhide HRa)
          have mgb := own_base (unhide HOb)
          apply step_ints (hT := lsMark) (L := List.take q M) (M := [xb]) (base := w.heap.size)
          case hgd => rfl
          case ho => rfl
          case hs => rfl
          case hown => exact unhide HOb
          case hbase => exact (unhide HB).size
          case hx => rfl
          case hM => rfl
          case hi => exact unhide HZb
          case hl => omega
          case' h => intro Gb Cb v20 o20 gr20 at20 lt20
          have HRa := hide (World.ownsRow.kept (w' := v20) (unhide HRa) gr20 (by simp [Value.ownBlock]; omega))
          have nGaGb : Ga ≠ Gb := by rcases at20 with e | e <;> omega
          have HB := hide ((unhide HB).trans ((mov_of_grown gr20).below mgb (unhide HB).size))
          replace qx := (mov_of_grown gr20).cell qx (by simp only; omega)
          replace qy := (mov_of_grown gr20).cell qy (by simp only; omega)
          have HRb : Hid (v20.ownsRow w.heap.size 72 1 (.slice (some ⟨Gb, 0, none⟩) (q + 1) Cb) (q + 1) (icells (topL M L))) := by have h := o20; rw [unhide HTM] at h; exact h
          clear o20 gr20 at20 lt20 HOb HZb kZb jZb lGa mGa lgb mgb
          refine hK.out _ _ ?_ (fun hHeld => ?_)
          · exact ⟨qx, qy⟩
          clear hK K
          try simp only [List.getElem_toArray, List.getElem_cons_succ, List.getElem_cons_zero, Act.put, List.setIfInBounds_toArray, List.set_cons_zero, List.set_cons_succ]
          refine wpAnyH_ready (rs := [21]) (by kernel_rfl) (by simp) ?_
          refine AllReadyH.cons rfl (fun K hK => ?_) AllReadyH.nil
          go_simp
          refine (unhide HLS _ Ga Ca Gb Cb (unhide HB) (unhide HRa) (unhide HRb)).mono ?_
          rintro e v21 ⟨rfl, g', hr⟩
          have HE := hide hr
          replace qx := hr.o.cell (unhide HQX).1 (unhide HQX).2
          replace qy := hr.o.cell (unhide HQY).1 (unhide HQY).2
          clear hr
          go_wp2_with fail
          refine hK.out _ _ ?_ (fun hHeld => ?_)
          · exact ⟨qx, qy⟩
          clear hK K
          try simp only [List.getElem_toArray, List.getElem_cons_succ, List.getElem_cons_zero, Act.put, List.setIfInBounds_toArray, List.set_cons_zero, List.set_cons_succ]
          refine wpAnyH_ready (rs := [22]) (by kernel_rfl) (by simp) ?_
          refine AllReadyH.cons rfl (fun K hK => ?_) AllReadyH.nil
          go_simp
          refine hK.out _ _ ?_ (fun hHeld => ?_)
          · exact ⟨qx, qy⟩
          clear hK K
          try simp only [List.getElem_toArray, List.getElem_cons_succ, List.getElem_cons_zero, Act.put, List.setIfInBounds_toArray, List.set_cons_zero, List.set_cons_succ]
          refine wpAnyH_done (by kernel_rfl) ?_ _
          go_wp2
          go_ret
          exact ⟨rfl, g', unhide HE⟩
      · go_simp
        obtain ⟨v19, hv19⟩ : ∃ x, x = v9.alloc (.cells #[.int .i64 xb] 72) := ⟨_, rfl⟩
        have b19 : Below v9.heap.size v9 v19 := by rw [hv19]; exact (Below.refl _ _).alloc (Nat.le_refl _) _
        have l19 : v9.heap.size < v19.heap.size := by rw [hv19]; simp
        have e19 : w.heap.size ≤ v9.heap.size := (unhide HB).size
        have lga := (own_cap (unhide HOa)).2
        have mga := own_base (unhide HOa)
        have HZb : Hid (Ints v19 v9.heap.size 0 1 (at0 [xb])) := fun i hi => by (obtain rfl : i = 0 := by omega); rw [hv19]; simp [go_sem, at0]
        have HOa := hide (World.ownsRow.kept (w' := v19) (unhide HOa) (grown_below b19) (by simp [Value.ownBlock]))
        have HZa := hide ((unhide HZa).later b19)
        have ngaZb : ga ≠ v9.heap.size := by omega
        have nZaZb : Za ≠ v9.heap.size := by omega
        have HB := hide ((unhide HB).trans (b19.mono (unhide HB).size))
        replace qx := cell_later b19 qx
        replace qy := cell_later b19 qy
        rw [← hv19]
        replace kZa : Za < v19.heap.size := Nat.lt_of_lt_of_le kZa b19.size
        obtain ⟨Zb, hZb⟩ : ∃ x, x = v9.heap.size := ⟨_, rfl⟩
        rw [← hZb] at HZb ngaZb nZaZb ⊢
        have kZb : Zb < v19.heap.size := by omega
        have jZb : w.heap.size ≤ Zb := by omega
        clear hv19 b19 l19 e19 hZb lga mga
        refine hK.out _ _ ?_ (fun hHeld => ?_)
        · exact ⟨qx, qy⟩
        clear hK K
        try simp only [List.getElem_toArray, List.getElem_cons_succ, List.getElem_cons_zero, Act.put, List.setIfInBounds_toArray, List.set_cons_zero, List.set_cons_succ]
        refine wpAnyH_ready (rs := [10]) (by kernel_rfl) (by simp) ?_
        refine AllReadyH.cons rfl (fun K hK => ?_) AllReadyH.nil
        have lga := (own_cap (unhide HOa)).2
        have mga := own_base (unhide HOa)
        apply step_ints (hT := lsMark) (L := List.take q L) (M := [xa]) (base := w.heap.size)
        case hgd => rfl
        case ho => rfl
        case hs => rfl
        case hown => exact unhide HOa
        case hbase => exact (unhide HB).size
        case hx => rfl
        case hM => rfl
        case hi => exact unhide HZa
        case hl => omega
        case' h => intro Ga Ca v10 o10 gr10 at10 lt10
        have HZb : Hid (Ints v10 Zb 0 1 (at0 [xb])) := fun i hi => (mov_of_grown gr10).cell (unhide HZb i hi) (by simp only; omega)
        have nZbGa : Zb ≠ Ga := by rcases at10 with e | e <;> omega
        have HB := hide ((unhide HB).trans ((mov_of_grown gr10).below mga (unhide HB).size))
        replace qx := (mov_of_grown gr10).cell qx (by simp only; omega)
        replace qy := (mov_of_grown gr10).cell qy (by simp only; omega)
        replace kZb : Zb < v10.heap.size := Nat.lt_of_lt_of_le kZb gr10.size
        have HRa : Hid (v10.ownsRow w.heap.size 72 1 (.slice (some ⟨Ga, 0, none⟩) (q + 1) Ca) (q + 1) (icells (topL L M))) := by have h := o10; rw [unhide HTL] at h; exact h
        clear o10 gr10 at10 lt10 HOa HZa kZa jZa lga mga
        refine hK.out _ _ ?_ (fun hHeld => ?_)
        · exact ⟨qx, qy⟩
        clear hK K
        try simp only [List.getElem_toArray, List.getElem_cons_succ, List.getElem_cons_zero, Act.put, List.setIfInBounds_toArray, List.set_cons_zero, List.set_cons_succ]
        refine wpAnyH_ready (rs := [14]) (by kernel_rfl) (by simp) ?_
        refine AllReadyH.cons rfl (fun K hK => ?_) AllReadyH.nil
        go_simp
        refine (clone_any ry 0 q cy (List.take q M) v10 tkM (by omega) (unhide HWM _ (unhide HB))).mono ?_
        rintro e v14 ⟨gb, cb, rfl, o14, b14⟩
        have lGa := (own_cap (unhide HRa)).2
        have mGa := own_base (unhide HRa)
        have HRa := hide (World.ownsRow.kept (w' := v14) (unhide HRa) (grown_below b14) (by simp [Value.ownBlock]))
        have HZb := hide ((unhide HZb).later b14)
        have k14 := own_base o14
        have HOb := hide (own_mono o14 (unhide HB).size)
        have nGab : Ga ≠ gb := by omega
        have nZbb : Zb ≠ gb := by omega
        have HB := hide ((unhide HB).trans (b14.mono (unhide HB).size))
        replace qx := cell_later b14 qx
        replace qy := cell_later b14 qy
        replace kZb : Zb < v14.heap.size := Nat.lt_of_lt_of_le kZb b14.size
        clear o14 b14 k14 lGa mGa
        go_wp2_with fail
        refine hK.out _ _ ?_ (fun hHeld => ?_)
        · exact ⟨qx, qy⟩
        clear hK K
        try simp only [List.getElem_toArray, List.getElem_cons_succ, List.getElem_cons_zero, Act.put, List.setIfInBounds_toArray, List.set_cons_zero, List.set_cons_succ]
        refine wpAnyH_ready (rs := [20]) (by kernel_rfl) (by simp) ?_
        refine AllReadyH.cons rfl (fun K hK => ?_) AllReadyH.nil
        have lGa := (own_cap (unhide HRa)).2
        have lgb := (own_cap (unhide HOb)).2
        have mGa := own_base (unhide HRa)
        have mgb := own_base (unhide HOb)
        apply step_ints (hT := lsMark) (L := List.take q M) (M := [xb]) (base := w.heap.size)
        case hgd => rfl
        case ho => rfl
        case hs => rfl
        case hown => exact unhide HOb
        case hbase => exact (unhide HB).size
        case hx => rfl
        case hM => rfl
        case hi => exact unhide HZb
        case hl => omega
        case' h => intro Gb Cb v20 o20 gr20 at20 lt20
        have HRa := hide (World.ownsRow.kept (w' := v20) (unhide HRa) gr20 (by simp [Value.ownBlock]; omega))
        have nGaGb : Ga ≠ Gb := by rcases at20 with e | e <;> omega
        have HB := hide ((unhide HB).trans ((mov_of_grown gr20).below mgb (unhide HB).size))
        replace qx := (mov_of_grown gr20).cell qx (by simp only; omega)
        replace qy := (mov_of_grown gr20).cell qy (by simp only; omega)
        have HRb : Hid (v20.ownsRow w.heap.size 72 1 (.slice (some ⟨Gb, 0, none⟩) (q + 1) Cb) (q + 1) (icells (topL M L))) := by have h := o20; rw [unhide HTM] at h; exact h
        clear o20 gr20 at20 lt20 HOb HZb kZb jZb lGa mGa lgb mgb
        refine hK.out _ _ ?_ (fun hHeld => ?_)
        · exact ⟨qx, qy⟩
        clear hK K
        try simp only [List.getElem_toArray, List.getElem_cons_succ, List.getElem_cons_zero, Act.put, List.setIfInBounds_toArray, List.set_cons_zero, List.set_cons_succ]
        refine wpAnyH_ready (rs := [21]) (by kernel_rfl) (by simp) ?_
        refine AllReadyH.cons rfl (fun K hK => ?_) AllReadyH.nil
        go_simp
        refine (unhide HLS _ Ga Ca Gb Cb (unhide HB) (unhide HRa) (unhide HRb)).mono ?_
        rintro e v21 ⟨rfl, g', hr⟩
        have HE := hide hr
        replace qx := hr.o.cell (unhide HQX).1 (unhide HQX).2
        replace qy := hr.o.cell (unhide HQY).1 (unhide HQY).2
        clear hr
        go_wp2_with fail
        refine hK.out _ _ ?_ (fun hHeld => ?_)
        · exact ⟨qx, qy⟩
        clear hK K
        try simp only [List.getElem_toArray, List.getElem_cons_succ, List.getElem_cons_zero, Act.put, List.setIfInBounds_toArray, List.set_cons_zero, List.set_cons_succ]
        refine wpAnyH_ready (rs := [22]) (by kernel_rfl) (by simp) ?_
        refine AllReadyH.cons rfl (fun K hK => ?_) AllReadyH.nil
        go_simp
        refine hK.out _ _ ?_ (fun hHeld => ?_)
        · exact ⟨qx, qy⟩
        clear hK K
        try simp only [List.getElem_toArray, List.getElem_cons_succ, List.getElem_cons_zero, Act.put, List.setIfInBounds_toArray, List.set_cons_zero, List.set_cons_succ]
        refine wpAnyH_done (by kernel_rfl) ?_ _
        go_wp2
        go_ret
        exact ⟨rfl, g', unhide HE⟩
    · go_simp
      obtain ⟨v19, hv19⟩ : ∃ x, x = v4.alloc (.cells #[.int .i64 xb] 72) := ⟨_, rfl⟩
      have b19 : Below v4.heap.size v4 v19 := by rw [hv19]; exact (Below.refl _ _).alloc (Nat.le_refl _) _
      have l19 : v4.heap.size < v19.heap.size := by rw [hv19]; simp
      have e19 : w.heap.size ≤ v4.heap.size := (unhide HB).size
      have lga := (own_cap (unhide HOa)).2
      have mga := own_base (unhide HOa)
      have HZb : Hid (Ints v19 v4.heap.size 0 1 (at0 [xb])) := fun i hi => by (obtain rfl : i = 0 := by omega); rw [hv19]; simp [go_sem, at0]
      have HOa := hide (World.ownsRow.kept (w' := v19) (unhide HOa) (grown_below b19) (by simp [Value.ownBlock]))
      have ngaZb : ga ≠ v4.heap.size := by omega
      have HB := hide ((unhide HB).trans (b19.mono (unhide HB).size))
      replace qx := cell_later b19 qx
      replace qy := cell_later b19 qy
      rw [← hv19]
      obtain ⟨Zb, hZb⟩ : ∃ x, x = v4.heap.size := ⟨_, rfl⟩
      rw [← hZb] at HZb ngaZb ⊢
      have kZb : Zb < v19.heap.size := by omega
      have jZb : w.heap.size ≤ Zb := by omega
      clear hv19 b19 l19 e19 hZb lga mga
      refine hK.out _ _ ?_ (fun hHeld => ?_)
      · exact ⟨qx, qy⟩
      clear hK K
      try simp only [List.getElem_toArray, List.getElem_cons_succ, List.getElem_cons_zero, Act.put, List.setIfInBounds_toArray, List.set_cons_zero, List.set_cons_succ]
      refine wpAnyH_ready (rs := [9]) (by kernel_rfl) (by simp) ?_
      refine AllReadyH.cons rfl (fun K hK => ?_) AllReadyH.nil
      go_simp
      obtain ⟨v9, hv9⟩ : ∃ x, x = v19.alloc (.cells #[.int .i64 xa] 72) := ⟨_, rfl⟩
      have b9 : Below v19.heap.size v19 v9 := by rw [hv9]; exact (Below.refl _ _).alloc (Nat.le_refl _) _
      have l9 : v19.heap.size < v9.heap.size := by rw [hv9]; simp
      have e9 : w.heap.size ≤ v19.heap.size := (unhide HB).size
      have lga := (own_cap (unhide HOa)).2
      have mga := own_base (unhide HOa)
      have HZa : Hid (Ints v9 v19.heap.size 0 1 (at0 [xa])) := fun i hi => by (obtain rfl : i = 0 := by omega); rw [hv9]; simp [go_sem, at0]
      have HOa := hide (World.ownsRow.kept (w' := v9) (unhide HOa) (grown_below b9) (by simp [Value.ownBlock]))
      have HZb := hide ((unhide HZb).later b9)
      have ngaZa : ga ≠ v19.heap.size := by omega
      have nZbZa : Zb ≠ v19.heap.size := by omega
      have HB := hide ((unhide HB).trans (b9.mono (unhide HB).size))
      replace qx := cell_later b9 qx
      replace qy := cell_later b9 qy
      rw [← hv9]
      replace kZb : Zb < v9.heap.size := Nat.lt_of_lt_of_le kZb b9.size
      obtain ⟨Za, hZa⟩ : ∃ x, x = v19.heap.size := ⟨_, rfl⟩
      rw [← hZa] at HZa ngaZa nZbZa ⊢
      have kZa : Za < v9.heap.size := by omega
      have jZa : w.heap.size ≤ Za := by omega
      clear hv9 b9 l9 e9 hZa lga mga
      refine hK.out _ _ ?_ (fun hHeld => ?_)
      · exact ⟨qx, qy⟩
      clear hK K
      try simp only [List.getElem_toArray, List.getElem_cons_succ, List.getElem_cons_zero, Act.put, List.setIfInBounds_toArray, List.set_cons_zero, List.set_cons_succ]
      refine wpAnyH_ready (rs := [10]) (by kernel_rfl) (by simp) ?_
      refine AllReadyH.cons rfl (fun K hK => ?_) AllReadyH.nil
      have lga := (own_cap (unhide HOa)).2
      have mga := own_base (unhide HOa)
      apply step_ints (hT := lsMark) (L := List.take q L) (M := [xa]) (base := w.heap.size)
      case hgd => rfl
      case ho => rfl
      case hs => rfl
      case hown => exact unhide HOa
      case hbase => exact (unhide HB).size
      case hx => rfl
      case hM => rfl
      case hi => exact unhide HZa
      case hl => omega
      case' h => intro Ga Ca v10 o10 gr10 at10 lt10
      have HZb : Hid (Ints v10 Zb 0 1 (at0 [xb])) := fun i hi => (mov_of_grown gr10).cell (unhide HZb i hi) (by simp only; omega)
      have nZbGa : Zb ≠ Ga := by rcases at10 with e | e <;> omega
      have HB := hide ((unhide HB).trans ((mov_of_grown gr10).below mga (unhide HB).size))
      replace qx := (mov_of_grown gr10).cell qx (by simp only; omega)
      replace qy := (mov_of_grown gr10).cell qy (by simp only; omega)
      replace kZb : Zb < v10.heap.size := Nat.lt_of_lt_of_le kZb gr10.size
      have HRa : Hid (v10.ownsRow w.heap.size 72 1 (.slice (some ⟨Ga, 0, none⟩) (q + 1) Ca) (q + 1) (icells (topL L M))) := by have h := o10; rw [unhide HTL] at h; exact h
      clear o10 gr10 at10 lt10 HOa HZa kZa jZa lga mga
      refine hK.out _ _ ?_ (fun hHeld => ?_)
      · exact ⟨qx, qy⟩
      clear hK K
      try simp only [List.getElem_toArray, List.getElem_cons_succ, List.getElem_cons_zero, Act.put, List.setIfInBounds_toArray, List.set_cons_zero, List.set_cons_succ]
      refine wpAnyH_ready (rs := [14]) (by kernel_rfl) (by simp) ?_
      refine AllReadyH.cons rfl (fun K hK => ?_) AllReadyH.nil
      go_simp
      refine (clone_any ry 0 q cy (List.take q M) v10 tkM (by omega) (unhide HWM _ (unhide HB))).mono ?_
      rintro e v14 ⟨gb, cb, rfl, o14, b14⟩
      have lGa := (own_cap (unhide HRa)).2
      have mGa := own_base (unhide HRa)
      have HRa := hide (World.ownsRow.kept (w' := v14) (unhide HRa) (grown_below b14) (by simp [Value.ownBlock]))
      have HZb := hide ((unhide HZb).later b14)
      have k14 := own_base o14
      have HOb := hide (own_mono o14 (unhide HB).size)
      have nGab : Ga ≠ gb := by omega
      have nZbb : Zb ≠ gb := by omega
      have HB := hide ((unhide HB).trans (b14.mono (unhide HB).size))
      replace qx := cell_later b14 qx
      replace qy := cell_later b14 qy
      replace kZb : Zb < v14.heap.size := Nat.lt_of_lt_of_le kZb b14.size
      clear o14 b14 k14 lGa mGa
      go_wp2_with fail
      refine hK.out _ _ ?_ (fun hHeld => ?_)
      · exact ⟨qx, qy⟩
      clear hK K
      try simp only [List.getElem_toArray, List.getElem_cons_succ, List.getElem_cons_zero, Act.put, List.setIfInBounds_toArray, List.set_cons_zero, List.set_cons_succ]
      refine wpAnyH_ready (rs := [20]) (by kernel_rfl) (by simp) ?_
      refine AllReadyH.cons rfl (fun K hK => ?_) AllReadyH.nil
      have lGa := (own_cap (unhide HRa)).2
      have lgb := (own_cap (unhide HOb)).2
      have mGa := own_base (unhide HRa)
      have mgb := own_base (unhide HOb)
      apply step_ints (hT := lsMark) (L := List.take q M) (M := [xb]) (base := w.heap.size)
      case hgd => rfl
      case ho => rfl
      case hs => rfl
      case hown => exact unhide HOb
      case hbase => exact (unhide HB).size
      case hx => rfl
      case hM => rfl
      case hi => exact unhide HZb
      case hl => omega
      case' h => intro Gb Cb v20 o20 gr20 at20 lt20
      have HRa := hide (World.ownsRow.kept (w' := v20) (unhide HRa) gr20 (by simp [Value.ownBlock]; omega))
      have nGaGb : Ga ≠ Gb := by rcases at20 with e | e <;> omega
      have HB := hide ((unhide HB).trans ((mov_of_grown gr20).below mgb (unhide HB).size))
      replace qx := (mov_of_grown gr20).cell qx (by simp only; omega)
      replace qy := (mov_of_grown gr20).cell qy (by simp only; omega)
      have HRb : Hid (v20.ownsRow w.heap.size 72 1 (.slice (some ⟨Gb, 0, none⟩) (q + 1) Cb) (q + 1) (icells (topL M L))) := by have h := o20; rw [unhide HTM] at h; exact h
      clear o20 gr20 at20 lt20 HOb HZb kZb jZb lGa mGa lgb mgb
      refine hK.out _ _ ?_ (fun hHeld => ?_)
      · exact ⟨qx, qy⟩
      clear hK K
      try simp only [List.getElem_toArray, List.getElem_cons_succ, List.getElem_cons_zero, Act.put, List.setIfInBounds_toArray, List.set_cons_zero, List.set_cons_succ]
      refine wpAnyH_ready (rs := [21]) (by kernel_rfl) (by simp) ?_
      refine AllReadyH.cons rfl (fun K hK => ?_) AllReadyH.nil
      go_simp
      refine (unhide HLS _ Ga Ca Gb Cb (unhide HB) (unhide HRa) (unhide HRb)).mono ?_
      rintro e v21 ⟨rfl, g', hr⟩
      have HE := hide hr
      replace qx := hr.o.cell (unhide HQX).1 (unhide HQX).2
      replace qy := hr.o.cell (unhide HQY).1 (unhide HQY).2
      clear hr
      go_wp2_with fail
      refine hK.out _ _ ?_ (fun hHeld => ?_)
      · exact ⟨qx, qy⟩
      clear hK K
      try simp only [List.getElem_toArray, List.getElem_cons_succ, List.getElem_cons_zero, Act.put, List.setIfInBounds_toArray, List.set_cons_zero, List.set_cons_succ]
      refine wpAnyH_ready (rs := [22]) (by kernel_rfl) (by simp) ?_
      refine AllReadyH.cons rfl (fun K hK => ?_) AllReadyH.nil
      go_simp
      refine hK.out _ _ ?_ (fun hHeld => ?_)
      · exact ⟨qx, qy⟩
      clear hK K
      try simp only [List.getElem_toArray, List.getElem_cons_succ, List.getElem_cons_zero, Act.put, List.setIfInBounds_toArray, List.set_cons_zero, List.set_cons_succ]
      refine wpAnyH_done (by kernel_rfl) ?_ _
      go_wp2
      go_ret
      exact ⟨rfl, g', unhide HE⟩
  · go_simp
    obtain ⟨v9, hv9⟩ : ∃ x, x = wd.alloc (.cells #[.int .i64 xa] 72) := ⟨_, rfl⟩
    have b9 : Below wd.heap.size wd v9 := by rw [hv9]; exact (Below.refl _ _).alloc (Nat.le_refl _) _
    have l9 : wd.heap.size < v9.heap.size := by rw [hv9]; simp
    have e9 : w.heap.size ≤ wd.heap.size := (unhide HB).size
    have HZa : Hid (Ints v9 wd.heap.size 0 1 (at0 [xa])) := fun i hi => by (obtain rfl : i = 0 := by omega); rw [hv9]; simp [go_sem, at0]
    have HB := hide ((unhide HB).trans (b9.mono (unhide HB).size))
    replace qx := cell_later b9 qx
    replace qy := cell_later b9 qy
    rw [← hv9]
    obtain ⟨Za, hZa⟩ : ∃ x, x = wd.heap.size := ⟨_, rfl⟩
    rw [← hZa] at HZa  ⊢
    have kZa : Za < v9.heap.size := by omega
    have jZa : w.heap.size ≤ Za := by omega
    clear hv9 b9 l9 e9 hZa
    refine hK.out _ _ ?_ (fun hHeld => ?_)
    · exact ⟨qx, qy⟩
    clear hK K
    try simp only [List.getElem_toArray, List.getElem_cons_succ, List.getElem_cons_zero, Act.put, List.setIfInBounds_toArray, List.set_cons_zero, List.set_cons_succ]
    refine wpAnyH_ready (rs := [4, 19]) (by kernel_rfl) (by simp) ?_
    refine AllReadyH.cons rfl (fun K hK => ?_) (AllReadyH.cons rfl (fun K hK => ?_) AllReadyH.nil)
    · go_simp
      refine (clone_any rx 0 q cx (List.take q L) v9 tkL (by omega) (unhide HWL _ (unhide HB))).mono ?_
      rintro e v4 ⟨ga, ca, rfl, o4, b4⟩
      have HZa := hide ((unhide HZa).later b4)
      have k4 := own_base o4
      have HOa := hide (own_mono o4 (unhide HB).size)
      have nZaa : Za ≠ ga := by omega
      have HB := hide ((unhide HB).trans (b4.mono (unhide HB).size))
      replace qx := cell_later b4 qx
      replace qy := cell_later b4 qy
      replace kZa : Za < v4.heap.size := Nat.lt_of_lt_of_le kZa b4.size
      clear o4 b4 k4
      go_wp2_with fail
      refine hK.out _ _ ?_ (fun hHeld => ?_)
      · exact ⟨qx, qy⟩
      clear hK K
      try simp only [List.getElem_toArray, List.getElem_cons_succ, List.getElem_cons_zero, Act.put, List.setIfInBounds_toArray, List.set_cons_zero, List.set_cons_succ]
      refine wpAnyH_ready (rs := [10, 19]) (by kernel_rfl) (by simp) ?_
      refine AllReadyH.cons rfl (fun K hK => ?_) (AllReadyH.cons rfl (fun K hK => ?_) AllReadyH.nil)
      · have lga := (own_cap (unhide HOa)).2
        have mga := own_base (unhide HOa)
        apply step_ints (hT := lsMark) (L := List.take q L) (M := [xa]) (base := w.heap.size)
        case hgd => rfl
        case ho => rfl
        case hs => rfl
        case hown => exact unhide HOa
        case hbase => exact (unhide HB).size
        case hx => rfl
        case hM => rfl
        case hi => exact unhide HZa
        case hl => omega
        case' h => intro Ga Ca v10 o10 gr10 at10 lt10
        have HB := hide ((unhide HB).trans ((mov_of_grown gr10).below mga (unhide HB).size))
        replace qx := (mov_of_grown gr10).cell qx (by simp only; omega)
        replace qy := (mov_of_grown gr10).cell qy (by simp only; omega)
        have HRa : Hid (v10.ownsRow w.heap.size 72 1 (.slice (some ⟨Ga, 0, none⟩) (q + 1) Ca) (q + 1) (icells (topL L M))) := by have h := o10; rw [unhide HTL] at h; exact h
        clear o10 gr10 at10 lt10 HOa HZa kZa jZa lga mga
        refine hK.out _ _ ?_ (fun hHeld => ?_)
        · exact ⟨qx, qy⟩
        clear hK K
        try simp only [List.getElem_toArray, List.getElem_cons_succ, List.getElem_cons_zero, Act.put, List.setIfInBounds_toArray, List.set_cons_zero, List.set_cons_succ]
        refine wpAnyH_ready (rs := [14, 19]) (by kernel_rfl) (by simp) ?_
        refine AllReadyH.cons rfl (fun K hK => ?_) (AllReadyH.cons rfl (fun K hK => ?_) AllReadyH.nil)
        · go_simp
          refine (clone_any ry 0 q cy (List.take q M) v10 tkM (by omega) (unhide HWM _ (unhide HB))).mono ?_
          rintro e v14 ⟨gb, cb, rfl, o14, b14⟩
          have lGa := (own_cap (unhide HRa)).2
          have mGa := own_base (unhide HRa)
          have HRa := hide (World.ownsRow.kept (w' := v14) (unhide HRa) (grown_below b14) (by simp [Value.ownBlock]))
          have k14 := own_base o14
          have HOb := hide (own_mono o14 (unhide HB).size)
          have nGab : Ga ≠ gb := by omega
          have HB := hide ((unhide HB).trans (b14.mono (unhide HB).size))
          replace qx := cell_later b14 qx
          replace qy := cell_later b14 qy
          clear o14 b14 k14 lGa mGa
          go_wp2_with fail
          refine hK.out _ _ ?_ (fun hHeld => ?_)
          · exact ⟨qx, qy⟩
          clear hK K
          try simp only [List.getElem_toArray, List.getElem_cons_succ, List.getElem_cons_zero, Act.put, List.setIfInBounds_toArray, List.set_cons_zero, List.set_cons_succ]
          refine wpAnyH_ready (rs := [19]) (by kernel_rfl) (by simp) ?_
          refine AllReadyH.cons rfl (fun K hK => ?_) AllReadyH.nil
          go_simp
          obtain ⟨v19, hv19⟩ : ∃ x, x = v14.alloc (.cells #[.int .i64 xb] 72) := ⟨_, rfl⟩
          have b19 : Below v14.heap.size v14 v19 := by rw [hv19]; exact (Below.refl _ _).alloc (Nat.le_refl _) _
          have l19 : v14.heap.size < v19.heap.size := by rw [hv19]; simp
          have e19 : w.heap.size ≤ v14.heap.size := (unhide HB).size
          have lGa := (own_cap (unhide HRa)).2
          have lgb := (own_cap (unhide HOb)).2
          have mGa := own_base (unhide HRa)
          have mgb := own_base (unhide HOb)
          have HZb : Hid (Ints v19 v14.heap.size 0 1 (at0 [xb])) := fun i hi => by (obtain rfl : i = 0 := by omega); rw [hv19]; simp [go_sem, at0]
          have HRa := hide (World.ownsRow.kept (w' := v19) (unhide HRa) (grown_below b19) (by simp [Value.ownBlock]))
          have HOb := hide (World.ownsRow.kept (w' := v19) (unhide HOb) (grown_below b19) (by simp [Value.ownBlock]))
          have nGaZb : Ga ≠ v14.heap.size := by omega
          have ngbZb : gb ≠ v14.heap.size := by omega
          have HB := hide ((unhide HB).trans (b19.mono (unhide HB).size))
          replace qx := cell_later b19 qx
          replace qy := cell_later b19 qy
          rw [← hv19]
          obtain ⟨Zb, hZb⟩ : ∃ x, x = v14.heap.size := ⟨_, rfl⟩
          rw [← hZb] at HZb nGaZb ngbZb ⊢
          have kZb : Zb < v19.heap.size := by omega
          have jZb : w.heap.size ≤ Zb := by omega
          clear hv19 b19 l19 e19 hZb lGa mGa lgb mgb
          refine hK.out _ _ ?_ (fun hHeld => ?_)
          · exact ⟨qx, qy⟩
          clear hK K
          try simp only [List.getElem_toArray, List.getElem_cons_succ, List.getElem_cons_zero, Act.put, List.setIfInBounds_toArray, List.set_cons_zero, List.set_cons_succ]
          refine wpAnyH_ready (rs := [20]) (by kernel_rfl) (by simp) ?_
          refine AllReadyH.cons rfl (fun K hK => ?_) AllReadyH.nil
          have lGa := (own_cap (unhide HRa)).2
          have lgb := (own_cap (unhide HOb)).2
          have mGa := own_base (unhide HRa)
          have mgb := own_base (unhide HOb)
          apply step_ints (hT := lsMark) (L := List.take q M) (M := [xb]) (base := w.heap.size)
          case hgd => rfl
          case ho => rfl
          case hs => rfl
          case hown => exact unhide HOb
          case hbase => exact (unhide HB).size
          case hx => rfl
          case hM => rfl
          case hi => exact unhide HZb
          case hl => omega
          case' h => intro Gb Cb v20 o20 gr20 at20 lt20
          have HRa := hide (World.ownsRow.kept (w' := v20) (unhide HRa) gr20 (by simp [Value.ownBlock]; omega))
          have nGaGb : Ga ≠ Gb := by rcases at20 with e | e <;> omega
          have HB := hide ((unhide HB).trans ((mov_of_grown gr20).below mgb (unhide HB).size))
          replace qx := (mov_of_grown gr20).cell qx (by simp only; omega)
          replace qy := (mov_of_grown gr20).cell qy (by simp only; omega)
          have HRb : Hid (v20.ownsRow w.heap.size 72 1 (.slice (some ⟨Gb, 0, none⟩) (q + 1) Cb) (q + 1) (icells (topL M L))) := by have h := o20; rw [unhide HTM] at h; exact h
          clear o20 gr20 at20 lt20 HOb HZb kZb jZb lGa mGa lgb mgb
          refine hK.out _ _ ?_ (fun hHeld => ?_)
          · exact ⟨qx, qy⟩
          clear hK K
          try simp only [List.getElem_toArray, List.getElem_cons_succ, List.getElem_cons_zero, Act.put, List.setIfInBounds_toArray, List.set_cons_zero, List.set_cons_succ]
          refine wpAnyH_ready (rs := [21]) (by kernel_rfl) (by simp) ?_
          refine AllReadyH.cons rfl (fun K hK => ?_) AllReadyH.nil
          go_simp
          refine (unhide HLS _ Ga Ca Gb Cb (unhide HB) (unhide HRa) (unhide HRb)).mono ?_
          rintro e v21 ⟨rfl, g', hr⟩
          have HE := hide hr
          replace qx := hr.o.cell (unhide HQX).1 (unhide HQX).2
          replace qy := hr.o.cell (unhide HQY).1 (unhide HQY).2
          clear hr
          go_wp2_with fail
          refine hK.out _ _ ?_ (fun hHeld => ?_)
          · exact ⟨qx, qy⟩
          clear hK K
          try simp only [List.getElem_toArray, List.getElem_cons_succ, List.getElem_cons_zero, Act.put, List.setIfInBounds_toArray, List.set_cons_zero, List.set_cons_succ]
          refine wpAnyH_ready (rs := [22]) (by kernel_rfl) (by simp) ?_
          refine AllReadyH.cons rfl (fun K hK => ?_) AllReadyH.nil
          go_simp
          refine hK.out _ _ ?_ (fun hHeld => ?_)
          · exact ⟨qx, qy⟩
          clear hK K
          try simp only [List.getElem_toArray, List.getElem_cons_succ, List.getElem_cons_zero, Act.put, List.setIfInBounds_toArray, List.set_cons_zero, List.set_cons_succ]
          refine wpAnyH_done (by kernel_rfl) ?_ _
          go_wp2
          go_ret
          exact ⟨rfl, g', unhide HE⟩
        · go_simp
          obtain ⟨v19, hv19⟩ : ∃ x, x = v10.alloc (.cells #[.int .i64 xb] 72) := ⟨_, rfl⟩
          have b19 : Below v10.heap.size v10 v19 := by rw [hv19]; exact (Below.refl _ _).alloc (Nat.le_refl _) _
          have l19 : v10.heap.size < v19.heap.size := by rw [hv19]; simp
          have e19 : w.heap.size ≤ v10.heap.size := (unhide HB).size
          have lGa := (own_cap (unhide HRa)).2
          have mGa := own_base (unhide HRa)
          have HZb : Hid (Ints v19 v10.heap.size 0 1 (at0 [xb])) := fun i hi => by (obtain rfl : i = 0 := by omega); rw [hv19]; simp [go_sem, at0]
          have HRa := hide (World.ownsRow.kept (w' := v19) (unhide HRa) (grown_below b19) (by simp [Value.ownBlock]))
          have nGaZb : Ga ≠ v10.heap.size := by omega
          have HB := hide ((unhide HB).trans (b19.mono (unhide HB).size))
          replace qx := cell_later b19 qx
          replace qy := cell_later b19 qy
          rw [← hv19]
          obtain ⟨Zb, hZb⟩ : ∃ x, x = v10.heap.size := ⟨_, rfl⟩
          rw [← hZb] at HZb nGaZb ⊢
          have kZb : Zb < v19.heap.size := by omega
          have jZb : w.heap.size ≤ Zb := by omega
          clear hv19 b19 l19 e19 hZb lGa mGa
          refine hK.out _ _ ?_ (fun hHeld => ?_)
          · exact ⟨qx, qy⟩
          clear hK K
          try simp only [List.getElem_toArray, List.getElem_cons_succ, List.getElem_cons_zero, Act.put, List.setIfInBounds_toArray, List.set_cons_zero, List.set_cons_succ]
          refine wpAnyH_ready (rs := [14]) (by kernel_rfl) (by simp) ?_
          refine AllReadyH.cons rfl (fun K hK => ?_) AllReadyH.nil
          go_simp
          refine (clone_any ry 0 q cy (List.take q M) v19 tkM (by omega) (unhide HWM _ (unhide HB))).mono ?_
          rintro e v14 ⟨gb, cb, rfl, o14, b14⟩
          have lGa := (own_cap (unhide HRa)).2
          have mGa := own_base (unhide HRa)
          have HRa := hide (World.ownsRow.kept (w' := v14) (unhide HRa) (grown_below b14) (by simp [Value.ownBlock]))
          have HZb := hide ((unhide HZb).later b14)
          have k14 := own_base o14
          have HOb := hide (own_mono o14 (unhide HB).size)
          have nGab : Ga ≠ gb := by omega
          have nZbb : Zb ≠ gb := by omega
          have HB := hide ((unhide HB).trans (b14.mono (unhide HB).size))
          replace qx := cell_later b14 qx
          replace qy := cell_later b14 qy
          replace kZb : Zb < v14.heap.size := Nat.lt_of_lt_of_le kZb b14.size
          clear o14 b14 k14 lGa mGa
          go_wp2_with fail
          refine hK.out _ _ ?_ (fun hHeld => ?_)
          · exact ⟨qx, qy⟩
          clear hK K
          try simp only [List.getElem_toArray, List.getElem_cons_succ, List.getElem_cons_zero, Act.put, List.setIfInBounds_toArray, List.set_cons_zero, List.set_cons_succ]
          refine wpAnyH_ready (rs := [20]) (by kernel_rfl) (by simp) ?_
          refine AllReadyH.cons rfl (fun K hK => ?_) AllReadyH.nil
          have lGa := (own_cap (unhide HRa)).2
          have lgb := (own_cap (unhide HOb)).2
          have mGa := own_base (unhide HRa)
          have mgb := own_base (unhide HOb)
          apply step_ints (hT := lsMark) (L := List.take q M) (M := [xb]) (base := w.heap.size)
          case hgd => rfl
          case ho => rfl
          case hs => rfl
          case hown => exact unhide HOb
          case hbase => exact (unhide HB).size
          case hx => rfl
          case hM => rfl
          case hi => exact unhide HZb
          case hl => omega
          case' h => intro Gb Cb v20 o20 gr20 at20 lt20
          have HRa := hide (World.ownsRow.kept (w' := v20) (unhide HRa) gr20 (by simp [Value.ownBlock]; omega))
          have nGaGb : Ga ≠ Gb := by rcases at20 with e | e <;> omega
          have HB := hide ((unhide HB).trans ((mov_of_grown gr20).below mgb (unhide HB).size))
          replace qx := (mov_of_grown gr20).cell qx (by simp only; omega)
          replace qy := (mov_of_grown gr20).cell qy (by simp only; omega)
          have HRb : Hid (v20.ownsRow w.heap.size 72 1 (.slice (some ⟨Gb, 0, none⟩) (q + 1) Cb) (q + 1) (icells (topL M L))) := by have h := o20; rw [unhide HTM] at h; exact h
          clear o20 gr20 at20 lt20 HOb HZb kZb jZb lGa mGa lgb mgb
          refine hK.out _ _ ?_ (fun hHeld => ?_)
          · exact ⟨qx, qy⟩
          clear hK K
          try simp only [List.getElem_toArray, List.getElem_cons_succ, List.getElem_cons_zero, Act.put, List.setIfInBounds_toArray, List.set_cons_zero, List.set_cons_succ]
          refine wpAnyH_ready (rs := [21]) (by kernel_rfl) (by simp) ?_
          refine AllReadyH.cons rfl (fun K hK => ?_) AllReadyH.nil
          go_simp
          refine (unhide HLS _ Ga Ca Gb Cb (unhide HB) (unhide HRa) (unhide HRb)).mono ?_
          rintro e v21 ⟨rfl, g', hr⟩
          have HE := hide hr
          replace qx := hr.o.cell (unhide HQX).1 (unhide HQX).2
          replace qy := hr.o.cell (unhide HQY).1 (unhide HQY).2
          clear hr
          go_wp2_with fail
          refine hK.out _ _ ?_ (fun hHeld => ?_)
          · exact ⟨qx, qy⟩
          clear hK K
          try simp only [List.getElem_toArray, List.getElem_cons_succ, List.getElem_cons_zero, Act.put, List.setIfInBounds_toArray, List.set_cons_zero, List.set_cons_succ]
          refine wpAnyH_ready (rs := [22]) (by kernel_rfl) (by simp) ?_
          refine AllReadyH.cons rfl (fun K hK => ?_) AllReadyH.nil
          go_simp
          refine hK.out _ _ ?_ (fun hHeld => ?_)
          · exact ⟨qx, qy⟩
          clear hK K
          try simp only [List.getElem_toArray, List.getElem_cons_succ, List.getElem_cons_zero, Act.put, List.setIfInBounds_toArray, List.set_cons_zero, List.set_cons_succ]
          refine wpAnyH_done (by kernel_rfl) ?_ _
          go_wp2
          go_ret
          exact ⟨rfl, g', unhide HE⟩
      · go_simp
        obtain ⟨v19, hv19⟩ : ∃ x, x = v4.alloc (.cells #[.int .i64 xb] 72) := ⟨_, rfl⟩
        have b19 : Below v4.heap.size v4 v19 := by rw [hv19]; exact (Below.refl _ _).alloc (Nat.le_refl _) _
        have l19 : v4.heap.size < v19.heap.size := by rw [hv19]; simp
        have e19 : w.heap.size ≤ v4.heap.size := (unhide HB).size
        have lga := (own_cap (unhide HOa)).2
        have mga := own_base (unhide HOa)
        have HZb : Hid (Ints v19 v4.heap.size 0 1 (at0 [xb])) := fun i hi => by (obtain rfl : i = 0 := by omega); rw [hv19]; simp [go_sem, at0]
        have HOa := hide (World.ownsRow.kept (w' := v19) (unhide HOa) (grown_below b19) (by simp [Value.ownBlock]))
        have HZa := hide ((unhide HZa).later b19)
        have ngaZb : ga ≠ v4.heap.size := by omega
        have nZaZb : Za ≠ v4.heap.size := by omega
        have HB := hide ((unhide HB).trans (b19.mono (unhide HB).size))
        replace qx := cell_later b19 qx
        replace qy := cell_later b19 qy
        rw [← hv19]
        replace kZa : Za < v19.heap.size := Nat.lt_of_lt_of_le kZa b19.size
        obtain ⟨Zb, hZb⟩ : ∃ x, x = v4.heap.size := ⟨_, rfl⟩
        rw [← hZb] at HZb ngaZb nZaZb ⊢
        have kZb : Zb < v19.heap.size := by omega
        have jZb : w.heap.size ≤ Zb := by omega
        clear hv19 b19 l19 e19 hZb lga mga
        refine hK.out _ _ ?_ (fun hHeld => ?_)
        · exact ⟨qx, qy⟩
        clear hK K
        try simp only [List.getElem_toArray, List.getElem_cons_succ, List.getElem_cons_zero, Act.put, List.setIfInBounds_toArray, List.set_cons_zero, List.set_cons_succ]
        refine wpAnyH_ready (rs := [10]) (by kernel_rfl) (by simp) ?_
        refine AllReadyH.cons rfl (fun K hK => ?_) AllReadyH.nil
        have lga := (own_cap (unhide HOa)).2
        have mga := own_base (unhide HOa)
        apply step_ints (hT := lsMark) (L := List.take q L) (M := [xa]) (base := w.heap.size)
        case hgd => rfl
        case ho => rfl
        case hs => rfl
        case hown => exact unhide HOa
        case hbase => exact (unhide HB).size
        case hx => rfl
        case hM => rfl
        case hi => exact unhide HZa
        case hl => omega
        case' h => intro Ga Ca v10 o10 gr10 at10 lt10
        have HZb : Hid (Ints v10 Zb 0 1 (at0 [xb])) := fun i hi => (mov_of_grown gr10).cell (unhide HZb i hi) (by simp only; omega)
        have nZbGa : Zb ≠ Ga := by rcases at10 with e | e <;> omega
        have HB := hide ((unhide HB).trans ((mov_of_grown gr10).below mga (unhide HB).size))
        replace qx := (mov_of_grown gr10).cell qx (by simp only; omega)
        replace qy := (mov_of_grown gr10).cell qy (by simp only; omega)
        replace kZb : Zb < v10.heap.size := Nat.lt_of_lt_of_le kZb gr10.size
        have HRa : Hid (v10.ownsRow w.heap.size 72 1 (.slice (some ⟨Ga, 0, none⟩) (q + 1) Ca) (q + 1) (icells (topL L M))) := by have h := o10; rw [unhide HTL] at h; exact h
        clear o10 gr10 at10 lt10 HOa HZa kZa jZa lga mga
        refine hK.out _ _ ?_ (fun hHeld => ?_)
        · exact ⟨qx, qy⟩
        clear hK K
        try simp only [List.getElem_toArray, List.getElem_cons_succ, List.getElem_cons_zero, Act.put, List.setIfInBounds_toArray, List.set_cons_zero, List.set_cons_succ]
        refine wpAnyH_ready (rs := [14]) (by kernel_rfl) (by simp) ?_
        refine AllReadyH.cons rfl (fun K hK => ?_) AllReadyH.nil
        go_simp
        refine (clone_any ry 0 q cy (List.take q M) v10 tkM (by omega) (unhide HWM _ (unhide HB))).mono ?_
        rintro e v14 ⟨gb, cb, rfl, o14, b14⟩
        have lGa := (own_cap (unhide HRa)).2
        have mGa := own_base (unhide HRa)
        have HRa := hide (World.ownsRow.kept (w' := v14) (unhide HRa) (grown_below b14) (by simp [Value.ownBlock]))
        have HZb := hide ((unhide HZb).later b14)
        have k14 := own_base o14
        have HOb := hide (own_mono o14 (unhide HB).size)
        have nGab : Ga ≠ gb := by omega
        have nZbb : Zb ≠ gb := by omega
        have HB := hide ((unhide HB).trans (b14.mono (unhide HB).size))
        replace qx := cell_later b14 qx
        replace qy := cell_later b14 qy
        replace kZb : Zb < v14.heap.size := Nat.lt_of_lt_of_le kZb b14.size
        clear o14 b14 k14 lGa mGa
        go_wp2_with fail
        refine hK.out _ _ ?_ (fun hHeld => ?_)
        · exact ⟨qx, qy⟩
        clear hK K
        try simp only [List.getElem_toArray, List.getElem_cons_succ, List.getElem_cons_zero, Act.put, List.setIfInBounds_toArray, List.set_cons_zero, List.set_cons_succ]
        refine wpAnyH_ready (rs := [20]) (by kernel_rfl) (by simp) ?_
        refine AllReadyH.cons rfl (fun K hK => ?_) AllReadyH.nil
        have lGa := (own_cap (unhide HRa)).2
        have lgb := (own_cap (unhide HOb)).2
        have mGa := own_base (unhide HRa)
        have mgb := own_base (unhide HOb)
        apply step_ints (hT := lsMark) (L := List.take q M) (M := [xb]) (base := w.heap.size)
        case hgd => rfl
        case ho => rfl
        case hs => rfl
        case hown => exact unhide HOb
        case hbase => exact (unhide HB).size
        case hx => rfl
        case hM => rfl
        case hi => exact unhide HZb
        case hl => omega
        case' h => intro Gb Cb v20 o20 gr20 at20 lt20
        have HRa := hide (World.ownsRow.kept (w' := v20) (unhide HRa) gr20 (by simp [Value.ownBlock]; omega))
        have nGaGb : Ga ≠ Gb := by rcases at20 with e | e <;> omega
        have HB := hide ((unhide HB).trans ((mov_of_grown gr20).below mgb (unhide HB).size))
        replace qx := (mov_of_grown gr20).cell qx (by simp only; omega)
        replace qy := (mov_of_grown gr20).cell qy (by simp only; omega)
        have HRb : Hid (v20.ownsRow w.heap.size 72 1 (.slice (some ⟨Gb, 0, none⟩) (q + 1) Cb) (q + 1) (icells (topL M L))) := by have h := o20; rw [unhide HTM] at h; exact h
        clear o20 gr20 at20 lt20 HOb HZb kZb jZb lGa mGa lgb mgb
        refine hK.out _ _ ?_ (fun hHeld => ?_)
        · exact ⟨qx, qy⟩
        clear hK K
        try simp only [List.getElem_toArray, List.getElem_cons_succ, List.getElem_cons_zero, Act.put, List.setIfInBounds_toArray, List.set_cons_zero, List.set_cons_succ]
        refine wpAnyH_ready (rs := [21]) (by kernel_rfl) (by simp) ?_
        refine AllReadyH.cons rfl (fun K hK => ?_) AllReadyH.nil
        go_simp
        refine (unhide HLS _ Ga Ca Gb Cb (unhide HB) (unhide HRa) (unhide HRb)).mono ?_
        rintro e v21 ⟨rfl, g', hr⟩
        have HE := hide hr
        replace qx := hr.o.cell (unhide HQX).1 (unhide HQX).2
        replace qy := hr.o.cell (unhide HQY).1 (unhide HQY).2
        clear hr
        go_wp2_with fail
        refine hK.out _ _ ?_ (fun hHeld => ?_)
        · exact ⟨qx, qy⟩
        clear hK K
        try simp only [List.getElem_toArray, List.getElem_cons_succ, List.getElem_cons_zero, Act.put, List.setIfInBounds_toArray, List.set_cons_zero, List.set_cons_succ]
        refine wpAnyH_ready (rs := [22]) (by kernel_rfl) (by simp) ?_
        refine AllReadyH.cons rfl (fun K hK => ?_) AllReadyH.nil
        go_simp
        refine hK.out _ _ ?_ (fun hHeld => ?_)
        · exact ⟨qx, qy⟩
        clear hK K
        try simp only [List.getElem_toArray, List.getElem_cons_succ, List.getElem_cons_zero, Act.put, List.setIfInBounds_toArray, List.set_cons_zero, List.set_cons_succ]
        refine wpAnyH_done (by kernel_rfl) ?_ _
        go_wp2
        go_ret
        exact ⟨rfl, g', unhide HE⟩
    · go_simp
      obtain ⟨v19, hv19⟩ : ∃ x, x = v9.alloc (.cells #[.int .i64 xb] 72) := ⟨_, rfl⟩
      have b19 : Below v9.heap.size v9 v19 := by rw [hv19]; exact (Below.refl _ _).alloc (Nat.le_refl _) _
      have l19 : v9.heap.size < v19.heap.size := by rw [hv19]; simp
      have e19 : w.heap.size ≤ v9.heap.size := (unhide HB).size
      have HZb : Hid (Ints v19 v9.heap.size 0 1 (at0 [xb])) := fun i hi => by (obtain rfl : i = 0 := by omega); rw [hv19]; simp [go_sem, at0]
      have HZa := hide ((unhide HZa).later b19)
      have nZaZb : Za ≠ v9.heap.size := by omega
      have HB := hide ((unhide HB).trans (b19.mono (unhide HB).size))
      replace qx := cell_later b19 qx
      replace qy := cell_later b19 qy
      rw [← hv19]
      replace kZa : Za < v19.heap.size := Nat.lt_of_lt_of_le kZa b19.size
      obtain ⟨Zb, hZb⟩ : ∃ x, x = v9.heap.size := ⟨_, rfl⟩
      rw [← hZb] at HZb nZaZb ⊢
      have kZb : Zb < v19.heap.size := by omega
      have jZb : w.heap.size ≤ Zb := by omega
      clear hv19 b19 l19 e19 hZb
      refine hK.out _ _ ?_ (fun hHeld => ?_)
      · exact ⟨qx, qy⟩
      clear hK K
      try simp only [List.getElem_toArray, List.getElem_cons_succ, List.getElem_cons_zero, Act.put, List.setIfInBounds_toArray, List.set_cons_zero, List.set_cons_succ]
      refine wpAnyH_ready (rs := [4]) (by kernel_rfl) (by simp) ?_
      refine AllReadyH.cons rfl (fun K hK => ?_) AllReadyH.nil
      go_simp
      refine (clone_any rx 0 q cx (List.take q L) v19 tkL (by omega) (unhide HWL _ (unhide HB))).mono ?_
      rintro e v4 ⟨ga, ca, rfl, o4, b4⟩
      have HZa := hide ((unhide HZa).later b4)
      have HZb := hide ((unhide HZb).later b4)
      have k4 := own_base o4
      have HOa := hide (own_mono o4 (unhide HB).size)
      have nZaa : Za ≠ ga := by omega
      have nZba : Zb ≠ ga := by omega
      have HB := hide ((unhide HB).trans (b4.mono (unhide HB).size))
      replace qx := cell_later b4 qx
      replace qy := cell_later b4 qy
      replace kZa : Za < v4.heap.size := Nat.lt_of_lt_of_le kZa b4.size
      replace kZb : Zb < v4.heap.size := Nat.lt_of_lt_of_le kZb b4.size
      clear o4 b4 k4
      go_wp2_with fail
      refine hK.out _ _ ?_ (fun hHeld => ?_)
      · exact ⟨qx, qy⟩
      clear hK K
      try simp only [List.getElem_toArray, List.getElem_cons_succ, List.getElem_cons_zero, Act.put, List.setIfInBounds_toArray, List.set_cons_zero, List.set_cons_succ]
      refine wpAnyH_ready (rs := [10]) (by kernel_rfl) (by simp) ?_
      refine AllReadyH.cons rfl (fun K hK => ?_) AllReadyH.nil
      have lga := (own_cap (unhide HOa)).2
      have mga := own_base (unhide HOa)
      apply step_ints (hT := lsMark) (L := List.take q L) (M := [xa]) (base := w.heap.size)
      case hgd => rfl
      case ho => rfl
      case hs => rfl
      case hown => exact unhide HOa
      case hbase => exact (unhide HB).size
      case hx => rfl
      case hM => rfl
      case hi => exact unhide HZa
      case hl => omega
      case' h => intro Ga Ca v10 o10 gr10 at10 lt10
      have HZb : Hid (Ints v10 Zb 0 1 (at0 [xb])) := fun i hi => (mov_of_grown gr10).cell (unhide HZb i hi) (by simp only; omega)
      have nZbGa : Zb ≠ Ga := by rcases at10 with e | e <;> omega
      have HB := hide ((unhide HB).trans ((mov_of_grown gr10).below mga (unhide HB).size))
      replace qx := (mov_of_grown gr10).cell qx (by simp only; omega)
      replace qy := (mov_of_grown gr10).cell qy (by simp only; omega)
      replace kZb : Zb < v10.heap.size := Nat.lt_of_lt_of_le kZb gr10.size
      have HRa : Hid (v10.ownsRow w.heap.size 72 1 (.slice (some ⟨Ga, 0, none⟩) (q + 1) Ca) (q + 1) (icells (topL L M))) := by have h := o10; rw [unhide HTL] at h; exact h
      clear o10 gr10 at10 lt10 HOa HZa kZa jZa lga mga
      refine hK.out _ _ ?_ (fun hHeld => ?_)
      · exact ⟨qx, qy⟩
      clear hK K
      try simp only [List.getElem_toArray, List.getElem_cons_succ, List.getElem_cons_zero, Act.put, List.setIfInBounds_toArray, List.set_cons_zero, List.set_cons_succ]
      refine wpAnyH_ready (rs := [14]) (by kernel_rfl) (by simp) ?_
      refine AllReadyH.cons rfl (fun K hK => ?_) AllReadyH.nil
      go_simp
      refine (clone_any ry 0 q cy (List.take q M) v10 tkM (by omega) (unhide HWM _ (unhide HB))).mono ?_
      rintro e v14 ⟨gb, cb, rfl, o14, b14⟩
      have lGa := (own_cap (unhide HRa)).2
      have mGa := own_base (unhide HRa)
      have HRa := hide (World.ownsRow.kept (w' := v14) (unhide HRa) (grown_below b14) (by simp [Value.ownBlock]))
      have HZb := hide ((unhide HZb).later b14)
      have k14 := own_base o14
      have HOb := hide (own_mono o14 (unhide HB).size)
      have nGab : Ga ≠ gb := by omega
      have nZbb : Zb ≠ gb := by omega
      have HB := hide ((unhide HB).trans (b14.mono (unhide HB).size))
      replace qx := cell_later b14 qx
      replace qy := cell_later b14 qy
      replace kZb : Zb < v14.heap.size := Nat.lt_of_lt_of_le kZb b14.size
      clear o14 b14 k14 lGa mGa
      go_wp2_with fail
      refine hK.out _ _ ?_ (fun hHeld => ?_)
      · exact ⟨qx, qy⟩
      clear hK K
      try simp only [List.getElem_toArray, List.getElem_cons_succ, List.getElem_cons_zero, Act.put, List.setIfInBounds_toArray, List.set_cons_zero, List.set_cons_succ]
      refine wpAnyH_ready (rs := [20]) (by kernel_rfl) (by simp) ?_
      refine AllReadyH.cons rfl (fun K hK => ?_) AllReadyH.nil
      have lGa := (own_cap (unhide HRa)).2
      have lgb := (own_cap (unhide HOb)).2
      have mGa := own_base (unhide HRa)
      have mgb := own_base (unhide HOb)
      apply step_ints (hT := lsMark) (L := List.take q M) (M := [xb]) (base := w.heap.size)
      case hgd => rfl
      case ho => rfl
      case hs => rfl
      case hown => exact unhide HOb
      case hbase => exact (unhide HB).size
      case hx => rfl
      case hM => rfl
      case hi => exact unhide HZb
      case hl => omega
      case' h => intro Gb Cb v20 o20 gr20 at20 lt20
      have HRa := hide (World.ownsRow.kept (w' := v20) (unhide HRa) gr20 (by simp [Value.ownBlock]; omega))
      have nGaGb : Ga ≠ Gb := by rcases at20 with e | e <;> omega
      have HB := hide ((unhide HB).trans ((mov_of_grown gr20).below mgb (unhide HB).size))
      replace qx := (mov_of_grown gr20).cell qx (by simp only; omega)
      replace qy := (mov_of_grown gr20).cell qy (by simp only; omega)
      have HRb : Hid (v20.ownsRow w.heap.size 72 1 (.slice (some ⟨Gb, 0, none⟩) (q + 1) Cb) (q + 1) (icells (topL M L))) := by have h := o20; rw [unhide HTM] at h; exact h
      clear o20 gr20 at20 lt20 HOb HZb kZb jZb lGa mGa lgb mgb
      refine hK.out _ _ ?_ (fun hHeld => ?_)
      · exact ⟨qx, qy⟩
      clear hK K
      try simp only [List.getElem_toArray, List.getElem_cons_succ, List.getElem_cons_zero, Act.put, List.setIfInBounds_toArray, List.set_cons_zero, List.set_cons_succ]
      refine wpAnyH_ready (rs := [21]) (by kernel_rfl) (by simp) ?_
      refine AllReadyH.cons rfl (fun K hK => ?_) AllReadyH.nil
      go_simp
      refine (unhide HLS _ Ga Ca Gb Cb (unhide HB) (unhide HRa) (unhide HRb)).mono ?_
      rintro e v21 ⟨rfl, g', hr⟩
      have HE := hide hr
      replace qx := hr.o.cell (unhide HQX).1 (unhide HQX).2
      replace qy := hr.o.cell (unhide HQY).1 (unhide HQY).2
      clear hr
      go_wp2_with fail
      refine hK.out _ _ ?_ (fun hHeld => ?_)
      · exact ⟨qx, qy⟩
      clear hK K
      try simp only [List.getElem_toArray, List.getElem_cons_succ, List.getElem_cons_zero, Act.put, List.setIfInBounds_toArray, List.set_cons_zero, List.set_cons_succ]
      refine wpAnyH_ready (rs := [22]) (by kernel_rfl) (by simp) ?_
      refine AllReadyH.cons rfl (fun K hK => ?_) AllReadyH.nil
      go_simp
      refine hK.out _ _ ?_ (fun hHeld => ?_)
      · exact ⟨qx, qy⟩
      clear hK K
      try simp only [List.getElem_toArray, List.getElem_cons_succ, List.getElem_cons_zero, Act.put, List.setIfInBounds_toArray, List.set_cons_zero, List.set_cons_succ]
      refine wpAnyH_done (by kernel_rfl) ?_ _
      go_wp2
      go_ret
      exact ⟨rfl, g', unhide HE⟩
  · go_simp
    obtain ⟨v19, hv19⟩ : ∃ x, x = wd.alloc (.cells #[.int .i64 xb] 72) := ⟨_, rfl⟩
    have b19 : Below wd.heap.size wd v19 := by rw [hv19]; exact (Below.refl _ _).alloc (Nat.le_refl _) _
    have l19 : wd.heap.size < v19.heap.size := by rw [hv19]; simp
    have e19 : w.heap.size ≤ wd.heap.size := (unhide HB).size
    have HZb : Hid (Ints v19 wd.heap.size 0 1 (at0 [xb])) := fun i hi => by (obtain rfl : i = 0 := by omega); rw [hv19]; simp [go_sem, at0]
    have HB := hide ((unhide HB).trans (b19.mono (unhide HB).size))
    replace qx := cell_later b19 qx
    replace qy := cell_later b19 qy
    rw [← hv19]
    obtain ⟨Zb, hZb⟩ : ∃ x, x = wd.heap.size := ⟨_, rfl⟩
    rw [← hZb] at HZb  ⊢
    have kZb : Zb < v19.heap.size := by omega
    have jZb : w.heap.size ≤ Zb := by omega
    clear hv19 b19 l19 e19 hZb
    refine hK.out _ _ ?_ (fun hHeld => ?_)
    · exact ⟨qx, qy⟩
    clear hK K
    try simp only [List.getElem_toArray, List.getElem_cons_succ, List.getElem_cons_zero, Act.put, List.setIfInBounds_toArray, List.set_cons_zero, List.set_cons_succ]
    refine wpAnyH_ready (rs := [4, 9]) (by kernel_rfl) (by simp) ?_
    refine AllReadyH.cons rfl (fun K hK => ?_) (AllReadyH.cons rfl (fun K hK => ?_) AllReadyH.nil)
    · go_simp
      refine (clone_any rx 0 q cx (List.take q L) v19 tkL (by omega) (unhide HWL _ (unhide HB))).mono ?_
      rintro e v4 ⟨ga, ca, rfl, o4, b4⟩
      have HZb := hide ((unhide HZb).later b4)
      have k4 := own_base o4
      have HOa := hide (own_mono o4 (unhide HB).size)
      have nZba : Zb ≠ ga := by omega
      have HB := hide ((unhide HB).trans (b4.mono (unhide HB).size))
      replace qx := cell_later b4 qx
      replace qy := cell_later b4 qy
      replace kZb : Zb < v4.heap.size := Nat.lt_of_lt_of_le kZb b4.size
      clear o4 b4 k4
      go_wp2_with fail
      refine hK.out _ _ ?_ (fun hHeld => ?_)
      · exact ⟨qx, qy⟩
      clear hK K
      try simp only [List.getElem_toArray, List.getElem_cons_succ, List.getElem_cons_zero, Act.put, List.setIfInBounds_toArray, List.set_cons_zero, List.set_cons_succ]
      refine wpAnyH_ready (rs := [9]) (by kernel_rfl) (by simp) ?_
      refine AllReadyH.cons rfl (fun K hK => ?_) AllReadyH.nil
      go_simp
      obtain ⟨v9, hv9⟩ : ∃ x, x = v4.alloc (.cells #[.int .i64 xa] 72) := ⟨_, rfl⟩
      have b9 : Below v4.heap.size v4 v9 := by rw [hv9]; exact (Below.refl _ _).alloc (Nat.le_refl _) _
      have l9 : v4.heap.size < v9.heap.size := by rw [hv9]; simp
      have e9 : w.heap.size ≤ v4.heap.size := (unhide HB).size
      have lga := (own_cap (unhide HOa)).2
      have mga := own_base (unhide HOa)
      have HZa : Hid (Ints v9 v4.heap.size 0 1 (at0 [xa])) := fun i hi => by (obtain rfl : i = 0 := by omega); rw [hv9]; simp [go_sem, at0]
      have HOa := hide (World.ownsRow.kept (w' := v9) (unhide HOa) (grown_below b9) (by simp [Value.ownBlock]))
      have HZb := hide ((unhide HZb).later b9)
      have ngaZa : ga ≠ v4.heap.size := by omega
      have nZbZa : Zb ≠ v4.heap.size := by omega
      have HB := hide ((unhide HB).trans (b9.mono (unhide HB).size))
      replace qx := cell_later b9 qx
      replace qy := cell_later b9 qy
      rw [← hv9]
      replace kZb : Zb < v9.heap.size := Nat.lt_of_lt_of_le kZb b9.size
      obtain ⟨Za, hZa⟩ : ∃ x, x = v4.heap.size := ⟨_, rfl⟩
      rw [← hZa] at HZa ngaZa nZbZa ⊢
      have kZa : Za < v9.heap.size := by omega
      have jZa : w.heap.size ≤ Za := by omega
      clear hv9 b9 l9 e9 hZa lga mga
      refine hK.out _ _ ?_ (fun hHeld => ?_)
      · exact ⟨qx, qy⟩
      clear hK K
      try simp only [List.getElem_toArray, List.getElem_cons_succ, List.getElem_cons_zero, Act.put, List.setIfInBounds_toArray, List.set_cons_zero, List.set_cons_succ]
      refine wpAnyH_ready (rs := [10]) (by kernel_rfl) (by simp) ?_
      refine AllReadyH.cons rfl (fun K hK => ?_) AllReadyH.nil
      have lga := (own_cap (unhide HOa)).2
      have mga := own_base (unhide HOa)
      apply step_ints (hT := lsMark) (L := List.take q L) (M := [xa]) (base := w.heap.size)
      case hgd => rfl
      case ho => rfl
      case hs => rfl
      case hown => exact unhide HOa
      case hbase => exact (unhide HB).size
      case hx => rfl
      case hM => rfl
      case hi => exact unhide HZa
      case hl => omega
      case' h => intro Ga Ca v10 o10 gr10 at10 lt10
      have HZb : Hid (Ints v10 Zb 0 1 (at0 [xb])) := fun i hi => (mov_of_grown gr10).cell (unhide HZb i hi) (by simp only; omega)
      have nZbGa : Zb ≠ Ga := by rcases at10 with e | e <;> omega
      have HB := hide ((unhide HB).trans ((mov_of_grown gr10).below mga (unhide HB).size))
      replace qx := (mov_of_grown gr10).cell qx (by simp only; omega)
      replace qy := (mov_of_grown gr10).cell qy (by simp only; omega)
      replace kZb : Zb < v10.heap.size := Nat.lt_of_lt_of_le kZb gr10.size
      have HRa : Hid (v10.ownsRow w.heap.size 72 1 (.slice (some ⟨Ga, 0, none⟩) (q + 1) Ca) (q + 1) (icells (topL L M))) := by have h := o10; rw [unhide HTL] at h; exact h
      clear o10 gr10 at10 lt10 HOa HZa kZa jZa lga mga
      refine hK.out _ _ ?_ (fun hHeld => ?_)
      · exact ⟨qx, qy⟩
      clear hK K
      try simp only [List.getElem_toArray, List.getElem_cons_succ, List.getElem_cons_zero, Act.put, List.setIfInBounds_toArray, List.set_cons_zero, List.set_cons_succ]
      refine wpAnyH_ready (rs := [14]) (by kernel_rfl) (by simp) ?_
      refine AllReadyH.cons rfl (fun K hK => ?_) AllReadyH.nil
      go_simp
      refine (clone_any ry 0 q cy (List.take q M) v10 tkM (by omega) (unhide HWM _ (unhide HB))).mono ?_
      rintro e v14 ⟨gb, cb, rfl, o14, b14⟩
      have lGa := (own_cap (unhide HRa)).2
      have mGa := own_base (unhide HRa)
      have HRa := hide (World.ownsRow.kept (w' := v14) (unhide HRa) (grown_below b14) (by simp [Value.ownBlock]))
      have HZb := hide ((unhide HZb).later b14)
      have k14 := own_base o14
      have HOb := hide (own_mono o14 (unhide HB).size)
      have nGab : Ga ≠ gb := by omega
      have nZbb : Zb ≠ gb := by omega
      have HB := hide ((unhide HB).trans (b14.mono (unhide HB).size))
      replace qx := cell_later b14 qx
      replace qy := cell_later b14 qy
      replace kZb : Zb < v14.heap.size := Nat.lt_of_lt_of_le kZb b14.size
      clear o14 b14 k14 lGa mGa
      go_wp2_with fail
      refine hK.out _ _ ?_ (fun hHeld => ?_)
      · exact ⟨qx, qy⟩
      clear hK K
      try simp only [List.getElem_toArray, List.getElem_cons_succ, List.getElem_cons_zero, Act.put, List.setIfInBounds_toArray, List.set_cons_zero, List.set_cons_succ]
      refine wpAnyH_ready (rs := [20]) (by kernel_rfl) (by simp) ?_
      refine AllReadyH.cons rfl (fun K hK => ?_) AllReadyH.nil
      have lGa := (own_cap (unhide HRa)).2
      have lgb := (own_cap (unhide HOb)).2
      have mGa := own_base (unhide HRa)
      have mgb := own_base (unhide HOb)
      apply step_ints (hT := lsMark) (L := List.take q M) (M := [xb]) (base := w.heap.size)
      case hgd => rfl
      case ho => rfl
      case hs => rfl
      case hown => exact unhide HOb
      case hbase => exact (unhide HB).size
      case hx => rfl
      case hM => rfl
      case hi => exact unhide HZb
      case hl => omega
      case' h => intro Gb Cb v20 o20 gr20 at20 lt20
      have HRa := hide (World.ownsRow.kept (w' := v20) (unhide HRa) gr20 (by simp [Value.ownBlock]; omega))
      have nGaGb : Ga ≠ Gb := by rcases at20 with e | e <;> omega
      have HB := hide ((unhide HB).trans ((mov_of_grown gr20).below mgb (unhide HB).size))
      replace qx := (mov_of_grown gr20).cell qx (by simp only; omega)
      replace qy := (mov_of_grown gr20).cell qy (by simp only; omega)
      have HRb : Hid (v20.ownsRow w.heap.size 72 1 (.slice (some ⟨Gb, 0, none⟩) (q + 1) Cb) (q + 1) (icells (topL M L))) := by have h := o20; rw [unhide HTM] at h; exact h
      clear o20 gr20 at20 lt20 HOb HZb kZb jZb lGa mGa lgb mgb
      refine hK.out _ _ ?_ (fun hHeld => ?_)
      · exact ⟨qx, qy⟩
      clear hK K
      try simp only [List.getElem_toArray, List.getElem_cons_succ, List.getElem_cons_zero, Act.put, List.setIfInBounds_toArray, List.set_cons_zero, List.set_cons_succ]
      refine wpAnyH_ready (rs := [21]) (by kernel_rfl) (by simp) ?_
      refine AllReadyH.cons rfl (fun K hK => ?_) AllReadyH.nil
      go_simp
      refine (unhide HLS _ Ga Ca Gb Cb (unhide HB) (unhide HRa) (unhide HRb)).mono ?_
      rintro e v21 ⟨rfl, g', hr⟩
      have HE := hide hr
      replace qx := hr.o.cell (unhide HQX).1 (unhide HQX).2
      replace qy := hr.o.cell (unhide HQY).1 (unhide HQY).2
      clear hr
      go_wp2_with fail
      refine hK.out _ _ ?_ (fun hHeld => ?_)
      · exact ⟨qx, qy⟩
      clear hK K
      try simp only [List.getElem_toArray, List.getElem_cons_succ, List.getElem_cons_zero, Act.put, List.setIfInBounds_toArray, List.set_cons_zero, List.set_cons_succ]
      refine wpAnyH_ready (rs := [22]) (by kernel_rfl) (by simp) ?_
      refine AllReadyH.cons rfl (fun K hK => ?_) AllReadyH.nil
      go_simp
      refine hK.out _ _ ?_ (fun hHeld => ?_)
      · exact ⟨qx, qy⟩
      clear hK K
      try simp only [List.getElem_toArray, List.getElem_cons_succ, List.getElem_cons_zero, Act.put, List.setIfInBounds_toArray, List.set_cons_zero, List.set_cons_succ]
      refine wpAnyH_done (by kernel_rfl) ?_ _
      go_wp2
      go_ret
      exact ⟨rfl, g', unhide HE⟩
    · go_simp
      obtain ⟨v9, hv9⟩ : ∃ x, x = v19.alloc (.cells #[.int .i64 xa] 72) := ⟨_, rfl⟩
      have b9 : Below v19.heap.size v19 v9 := by rw [hv9]; exact (Below.refl _ _).alloc (Nat.le_refl _) _
      have l9 : v19.heap.size < v9.heap.size := by rw [hv9]; simp
      have e9 : w.heap.size ≤ v19.heap.size := (unhide HB).size
      have HZa : Hid (Ints v9 v19.heap.size 0 1 (at0 [xa])) := fun i hi => by (obtain rfl : i = 0 := by omega); rw [hv9]; simp [go_sem, at0]
      have HZb := hide ((unhide HZb).later b9)
      have nZbZa : Zb ≠ v19.heap.size := by omega
      have HB := hide ((unhide HB).trans (b9.mono (unhide HB).size))
      replace qx := cell_later b9 qx
      replace qy := cell_later b9 qy
      rw [← hv9]
      replace kZb : Zb < v9.heap.size := Nat.lt_of_lt_of_le kZb b9.size
      obtain ⟨Za, hZa⟩ : ∃ x, x = v19.heap.size := ⟨_, rfl⟩
      rw [← hZa] at HZa nZbZa ⊢
      have kZa : Za < v9.heap.size := by omega
      have jZa : w.heap.size ≤ Za := by omega
      clear hv9 b9 l9 e9 hZa
      refine hK.out _ _ ?_ (fun hHeld => ?_)
      · exact ⟨qx, qy⟩
      clear hK K
      try simp only [List.getElem_toArray, List.getElem_cons_succ, List.getElem_cons_zero, Act.put, List.setIfInBounds_toArray, List.set_cons_zero, List.set_cons_succ]
      refine wpAnyH_ready (rs := [4]) (by kernel_rfl) (by simp) ?_
      refine AllReadyH.cons rfl (fun K hK => ?_) AllReadyH.nil
      go_simp
      refine (clone_any rx 0 q cx (List.take q L) v9 tkL (by omega) (unhide HWL _ (unhide HB))).mono ?_
      rintro e v4 ⟨ga, ca, rfl, o4, b4⟩
      have HZa := hide ((unhide HZa).later b4)
      have HZb := hide ((unhide HZb).later b4)
      have k4 := own_base o4
      have HOa := hide (own_mono o4 (unhide HB).size)
      have nZaa : Za ≠ ga := by omega
      have nZba : Zb ≠ ga := by omega
      have HB := hide ((unhide HB).trans (b4.mono (unhide HB).size))
      replace qx := cell_later b4 qx
      replace qy := cell_later b4 qy
      replace kZa : Za < v4.heap.size := Nat.lt_of_lt_of_le kZa b4.size
      replace kZb : Zb < v4.heap.size := Nat.lt_of_lt_of_le kZb b4.size
      clear o4 b4 k4
      go_wp2_with fail
      refine hK.out _ _ ?_ (fun hHeld => ?_)
      · exact ⟨qx, qy⟩
      clear hK K
      try simp only [List.getElem_toArray, List.getElem_cons_succ, List.getElem_cons_zero, Act.put, List.setIfInBounds_toArray, List.set_cons_zero, List.set_cons_succ]
      refine wpAnyH_ready (rs := [10]) (by kernel_rfl) (by simp) ?_
      refine AllReadyH.cons rfl (fun K hK => ?_) AllReadyH.nil
      have lga := (own_cap (unhide HOa)).2
      have mga := own_base (unhide HOa)
      apply step_ints (hT := lsMark) (L := List.take q L) (M := [xa]) (base := w.heap.size)
      case hgd => rfl
      case ho => rfl
      case hs => rfl
      case hown => exact unhide HOa
      case hbase => exact (unhide HB).size
      case hx => rfl
      case hM => rfl
      case hi => exact unhide HZa
      case hl => omega
      case' h => intro Ga Ca v10 o10 gr10 at10 lt10
      have HZb : Hid (Ints v10 Zb 0 1 (at0 [xb])) := fun i hi => (mov_of_grown gr10).cell (unhide HZb i hi) (by simp only; omega)
      have nZbGa : Zb ≠ Ga := by rcases at10 with e | e <;> omega
      have HB := hide ((unhide HB).trans ((mov_of_grown gr10).below mga (unhide HB).size))
      replace qx := (mov_of_grown gr10).cell qx (by simp only; omega)
      replace qy := (mov_of_grown gr10).cell qy (by simp only; omega)
      replace kZb : Zb < v10.heap.size := Nat.lt_of_lt_of_le kZb gr10.size
      have HRa : Hid (v10.ownsRow w.heap.size 72 1 (.slice (some ⟨Ga, 0, none⟩) (q + 1) Ca) (q + 1) (icells (topL L M))) := by have h := o10; rw [unhide HTL] at h; exact h
      clear o10 gr10 at10 lt10 HOa HZa kZa jZa lga mga
      refine hK.out _ _ ?_ (fun hHeld => ?_)
      · exact ⟨qx, qy⟩
      clear hK K
      try simp only [List.getElem_toArray, List.getElem_cons_succ, List.getElem_cons_zero, Act.put, List.setIfInBounds_toArray, List.set_cons_zero, List.set_cons_succ]
      refine wpAnyH_ready (rs := [14]) (by kernel_rfl) (by simp) ?_
      refine AllReadyH.cons rfl (fun K hK => ?_) AllReadyH.nil
      go_simp
      refine (clone_any ry 0 q cy (List.take q M) v10 tkM (by omega) (unhide HWM _ (unhide HB))).mono ?_
      rintro e v14 ⟨gb, cb, rfl, o14, b14⟩
      have lGa := (own_cap (unhide HRa)).2
      have mGa := own_base (unhide HRa)
      have HRa := hide (World.ownsRow.kept (w' := v14) (unhide HRa) (grown_below b14) (by simp [Value.ownBlock]))
      have HZb := hide ((unhide HZb).later b14)
      have k14 := own_base o14
      have HOb := hide (own_mono o14 (unhide HB).size)
      have nGab : Ga ≠ gb := by omega
      have nZbb : Zb ≠ gb := by omega
      have HB := hide ((unhide HB).trans (b14.mono (unhide HB).size))
      replace qx := cell_later b14 qx
      replace qy := cell_later b14 qy
      replace kZb : Zb < v14.heap.size := Nat.lt_of_lt_of_le kZb b14.size
      clear o14 b14 k14 lGa mGa
      go_wp2_with fail
      refine hK.out _ _ ?_ (fun hHeld => ?_)
      · exact ⟨qx, qy⟩
      clear hK K
      try simp only [List.getElem_toArray, List.getElem_cons_succ, List.getElem_cons_zero, Act.put, List.setIfInBounds_toArray, List.set_cons_zero, List.set_cons_succ]
      refine wpAnyH_ready (rs := [20]) (by kernel_rfl) (by simp) ?_
      refine AllReadyH.cons rfl (fun K hK => ?_) AllReadyH.nil
      have lGa := (own_cap (unhide HRa)).2
      have lgb := (own_cap (unhide HOb)).2
      have mGa := own_base (unhide HRa)
      have mgb := own_base (unhide HOb)
      apply step_ints (hT := lsMark) (L := List.take q M) (M := [xb]) (base := w.heap.size)
      case hgd => rfl
      case ho => rfl
      case hs => rfl
      case hown => exact unhide HOb
      case hbase => exact (unhide HB).size
      case hx => rfl
      case hM => rfl
      case hi => exact unhide HZb
      case hl => omega
      case' h => intro Gb Cb v20 o20 gr20 at20 lt20
      have HRa := hide (World.ownsRow.kept (w' := v20) (unhide HRa) gr20 (by simp [Value.ownBlock]; omega))
      have nGaGb : Ga ≠ Gb := by rcases at20 with e | e <;> omega
      have HB := hide ((unhide HB).trans ((mov_of_grown gr20).below mgb (unhide HB).size))
      replace qx := (mov_of_grown gr20).cell qx (by simp only; omega)
      replace qy := (mov_of_grown gr20).cell qy (by simp only; omega)
      have HRb : Hid (v20.ownsRow w.heap.size 72 1 (.slice (some ⟨Gb, 0, none⟩) (q + 1) Cb) (q + 1) (icells (topL M L))) := by have h := o20; rw [unhide HTM] at h; exact h
      clear o20 gr20 at20 lt20 HOb HZb kZb jZb lGa mGa lgb mgb
      refine hK.out _ _ ?_ (fun hHeld => ?_)
      · exact ⟨qx, qy⟩
      clear hK K
      try simp only [List.getElem_toArray, List.getElem_cons_succ, List.getElem_cons_zero, Act.put, List.setIfInBounds_toArray, List.set_cons_zero, List.set_cons_succ]
      refine wpAnyH_ready (rs := [21]) (by kernel_rfl) (by simp) ?_
      refine AllReadyH.cons rfl (fun K hK => ?_) AllReadyH.nil
      go_simp
      refine (unhide HLS _ Ga Ca Gb Cb (unhide HB) (unhide HRa) (unhide HRb)).mono ?_
      rintro e v21 ⟨rfl, g', hr⟩
      have HE := hide hr
      replace qx := hr.o.cell (unhide HQX).1 (unhide HQX).2
      replace qy := hr.o.cell (unhide HQY).1 (unhide HQY).2
      clear hr
      go_wp2_with fail
      refine hK.out _ _ ?_ (fun hHeld => ?_)
      · exact ⟨qx, qy⟩
      clear hK K
      try simp only [List.getElem_toArray, List.getElem_cons_succ, List.getElem_cons_zero, Act.put, List.setIfInBounds_toArray, List.set_cons_zero, List.set_cons_succ]
      refine wpAnyH_ready (rs := [22]) (by kernel_rfl) (by simp) ?_
      refine AllReadyH.cons rfl (fun K hK => ?_) AllReadyH.nil
      go_simp
      refine hK.out _ _ ?_ (fun hHeld => ?_)
      · exact ⟨qx, qy⟩
      clear hK K
      try simp only [List.getElem_toArray, List.getElem_cons_succ, List.getElem_cons_zero, Act.put, List.setIfInBounds_toArray, List.set_cons_zero, List.set_cons_succ]
      refine wpAnyH_done (by kernel_rfl) ?_ _
      go_wp2
      go_ret
      exact ⟨rfl, g', unhide HE⟩
end Go.Proofs.YtnjjobompjoigaaDoor
